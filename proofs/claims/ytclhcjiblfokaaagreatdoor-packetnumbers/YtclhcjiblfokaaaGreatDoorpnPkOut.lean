/-
  What keeps a packet from being sent: packet.doubtsOfSending.
-/
import Derived.Test.YtclhcjiblfokaaaGreatDoorpnChMath
import Derived.Test.YtclhcjiblfokaaaGreatDoorpnCoLive
import Derived.Test.YtclhcjiblfokaaaGreatDoorpnStWrong
import Derived.Test.YtclhcjiblfokaaaGreatDoorpnFrKit
import Derived.Test.YtclhcjiblfokaaaGreatDoorpnPkKit
import Derived.Test.YtclhcjiblfokaaaGreatDoorpnRegWant
import Derived.Test.YtclhcjiblfokaaaGreatDoorpnStKey
import Derived.Test.YtclhcjiblfokaaaGreatDoorpnHdMems
import Derived.Test.YtclhcjiblfokaaaGreatDoorpnClAsk
import Derived.Test.YtclhcjiblfokaaaGreatDoorpnClShown
import Derived.Test.YtclhcjiblfokaaaGreatDoorpnBookMath
import Derived.Test.YtclhcjiblfokaaaGreatDoorpnPairsAll
import Derived.Test.YtclhcjiblfokaaaGreatDoorpnBookTree
import Derived.Test.YtclhcjiblfokaaaGreatDoorpnSameB
import Derived.Test.YtclhcjiblfokaaaGreatDoorpnRegions
import Derived.Test.YtclhcjiblfokaaaGreatDoorpnStOne
import Derived.Laws.RangeString
namespace Go.Proofs.YtclhcjiblfokaaaGreatDoor
open Go.RowKit

set_option maxRecDepth 100000 in
set_option maxHeartbeats 4000000 in
theorem useR {y0 y3 y5 y6 y7 y8 y9 y10 y11 y12 y13 y14 y15 y16 y17 y18 y19 y20 y21 y22 y23 y24 y25 y26 y27 y28 y29 y30 z4 z31 z32 z33 z34 z35 z36 z37 z38 : Value} {x0 x1 x2 x3 x5 x6 x7 x8 x9 : Value} {gs b f k n c : Nat} {cl z : Int} {w : World} (hgs : Hid (Row w gs 28 [x0, x1, x2, x3, .slice (some ⟨b, f, none⟩) n c, x5, x6, x7, x8, x9])) (hlb : (k : Int) < (n : Int)) (hbb : b < w.heap.size) (hcb : Hid (w.cell? ⟨b, f + k * 4 + 1, none⟩ = some (.int .i64 cl))) (hc : ∀ W, Below w.heap.size w W → Calls Tryz.prog 161 #[.agg #[x0, x1, x2, x3, .slice (some ⟨b, f, none⟩) n c, x5, x6, x7, x8, x9], .int .i64 cl] W fun e w' => e = .returned (.int .i64 z) ∧ Below W.heap.size W w') (Q : Exit → Act → World → Prop)
    (hQ : Hid (∀ (σ : Nat → Value) (w' : World), Below w.heap.size w w' → σ 8 = .int .i64 z → Q .normal ⟨#[y0, .int .i64 (k : Int), .pointer (some ⟨gs, 0, none⟩), y3, σ 8, y5, y6, y7, y8, y9, y10, y11, y12, y13, y14, y15, y16, y17, y18, y19, y20, y21, y22, y23, y24, y25, y26, y27, y28, y29, y30, σ 0, σ 1, σ 2, σ 3, σ 4, σ 5, σ 6, σ 7], []⟩ w')) :
    Code.wp Tryz.prog (.region 7 ((Tryz.f127.body.bind (regOf 7)).getD #[]) true) Q ⟨#[y0, .int .i64 (k : Int), .pointer (some ⟨gs, 0, none⟩), y3, z4, y5, y6, y7, y8, y9, y10, y11, y12, y13, y14, y15, y16, y17, y18, y19, y20, y21, y22, y23, y24, y25, y26, y27, y28, y29, y30, z31, z32, z33, z34, z35, z36, z37, z38], []⟩ w := by
  conv => arg 2; arg 2; whnf
  conv => arg 4; dsimp only
  refine region_grows (by kernel_rfl) (fun σ => #[y0, .int .i64 (k : Int), .pointer (some ⟨gs, 0, none⟩), y3, σ 8, y5, y6, y7, y8, y9, y10, y11, y12, y13, y14, y15, y16, y17, y18, y19, y20, y21, y22, y23, y24, y25, y26, y27, y28, y29, y30, σ 0, σ 1, σ 2, σ 3, σ 4, σ 5, σ 6, σ 7]) (fun i => ([z31, z32, z33, z34, z35, z36, z37, z38, z4] : List Value).getD i undef) rfl (fun i X W => match i with
    | 0 => X = .agg #[x0, x1, x2, x3, .slice (some ⟨b, f, none⟩) n c, x5, x6, x7, x8, x9]
    | 1 => X = .pointer (some ⟨gs, 4, none⟩)
    | 2 => X = .slice (some ⟨b, f, none⟩) n c
    | 3 => X = .int .i64 (k : Int)
    | 4 => X = .pointer (some ⟨b, f + k * 4, none⟩)
    | 5 => X = .pointer (some ⟨b, f + k * 4 + 1, none⟩)
    | 6 => X = .int .i64 cl
    | 7 => X = .int .i64 z
    | 8 => X = .int .i64 z
    | _ => True) ?_ (by kernel_rfl) ?_ ?_
  · intro i X W W' HB H
    iterate 9 (obtain _ | i := i; first | exact H)
    exact H
  · refine ⟨?_, ?_, ?_, ?_, ?_, ?_, ?_, ?_, ?_, trivial⟩
    all_goals (intro σ W HJ hdep; simp [Region.binds] at hdep; have HJ := hid HJ; obtain ⟨gsk0, gsk1, gsk2, gsk3, gsk4, gsk5, gsk6, gsk7, gsk8, gsk9⟩ := (hgs.out.below HJ.out hgs.out.lt).k10; have bk0 := hcb.out; replace bk0 := (HJ.out.cell (by exact hbb)).trans bk0)
    · refine wpOp_plain rfl rfl ?_; go_simp; exact Left.mk0 _ (by first | rfl | simp [updF, *]) HJ.out rfl
    · refine wpOp_plain rfl rfl ?_; go_simp; exact Left.mk0 _ (by first | rfl | simp [updF, *]) HJ.out rfl
    · refine wpOp_plain rfl rfl ?_; go_simp; exact Left.mk0 _ (by first | rfl | simp [updF, *]) HJ.out rfl
    · refine wpOp_plain rfl rfl ?_; go_simp; exact Left.mk0 _ (by first | rfl | simp [updF, *]) HJ.out rfl
    · refine wpOp_plain rfl rfl ?_; go_simp; exact Left.mk0 _ (by first | rfl | simp [updF, *]) HJ.out rfl
    · refine wpOp_plain rfl rfl ?_; go_simp; exact Left.mk0 _ (by first | rfl | simp [updF, *]) HJ.out rfl
    · refine wpOp_plain rfl rfl ?_; go_simp; exact Left.mk0 _ (by first | rfl | simp [updF, *]) HJ.out rfl
    · have HC := hid (hc W HJ.out); refine wpOp_plain rfl rfl ?_; go_simp; refine HC.out.mono ?_; rintro e w2 ⟨rfl, hb⟩; exact Left.mk _ (by first | rfl | simp [updF, *]) hb HJ.out rfl
    · refine wpOp_plain rfl rfl ?_; go_simp; exact Left.mk0 _ (by first | rfl | simp [updF, *]) HJ.out rfl
  · intro σ w' hb hg
    exact hQ.out σ w' hb (hg 8 (by decide))
set_option maxRecDepth 100000 in
set_option maxHeartbeats 4000000 in
theorem use_any (s : St) (v : Value) (N : Nat) (w : World) (i : Int) (hv : StV w N v s) (hN : N ≤ w.heap.size) (h0 : wrongS s = 0) :
    Calls Tryz.prog 127 #[v, .int .i64 i] w fun e w' => e = .returned (.int .i64 (overN s i)) ∧ Below w.heap.size w w' := by
  have HE := hid (show overN s i = if i < 0 ∨ (s.conns.length : Int) ≤ i then 6 else if (cnAt s i).state ≠ 3 then 12 else if (cnAt s i).oconn < 0 then 8 else liveN s (cnAt s i).client from rfl)
  have HLV := hid (fun (c : Int) wx (hx : Below w.heap.size w wx) => liveC s v N wx c (hv.below (hx.mono hN)) (Nat.le_trans hN hx.size) h0)
  obtain ⟨o1, c1, o2, c2, o3, c3, o4, c4, o5, c5, o6, c6, o7, c7, rfl, hm⟩ := hv.open
  have HM := hid hm
  clear hv hm h0
  go_enter Tryz.func127, Tryz.ntmps127
  go_upto_region 1 with fail
  refine fbox1 ?_
  intro w0 F hs
  have k4 := F.r0.k10.2.2.2.2.1
  by_cases h0 : i < 0
  · have e0 : decide (i < 0) = true := by simpa using h0
    go_wp2
    go_ret
    exact ⟨by rw [HE.out, if_pos (.inl h0)]; rfl, F.b⟩
  have e0 : decide (i < 0) = false := by simpa using h0
  by_cases h1 : (s.conns.length : Int) ≤ i
  · have e1 : decide ((s.conns.length : Int) ≤ i) = true := by simpa using h1
    go_wp2
    go_ret
    exact ⟨by rw [HE.out, if_pos (.inr h1)]; rfl, F.b⟩
  have e1 : decide ((s.conns.length : Int) ≤ i) = false := by simpa using h1
  have HE2 := hid (HE.out.trans (if_neg (by omega)))
  obtain ⟨k, rfl⟩ : ∃ k : Nat, i = (k : Int) := ⟨i.toNat, by omega⟩
  have hlt : (k : Int) < (s.conns.length : Int) := by omega
  obtain ⟨x, hx⟩ : ∃ x, s.conns[k]? = some x := ⟨_, List.getElem?_eq_getElem (by omega)⟩
  rw [cnAt_some hx] at HE2
  obtain ⟨b, f, rfl, hb, x0, x1, x2, x3⟩ := (HM.out.below (F.b.mono hN)).conns.conn rfl hx
  have HX1 := hid x1
  clear x1 x2 hx HE
  have hbl : b < w0.heap.size := by have := F.b.size; omega
  by_cases h2 : x.state = 3
  · have e2 : (x.state != 3) = false := by simpa using h2
    by_cases h3 : x.oconn < 0
    · have e3 : decide (x.oconn < 0) = true := by simpa using h3
      have HL := hid (HE2.out.trans ((if_neg (by simp [h2])).trans (if_pos h3)))
      clear h2 h3
      go_wp2
      go_ret
      exact ⟨by rw [HL.out]; rfl, F.b⟩
    have e3 : decide (x.oconn < 0) = false := by simpa using h3
    have HL := hid (HE2.out.trans ((if_neg (by simp [h2])).trans (if_neg h3)))
    clear h2 h3
    go_upto_region 7 with fail
    refine useR (hid F.r0) hlt hbl HX1 (z := liveN s x.client) (fun W hW => HLV.out x.client W (F.go hW).b) _ (hid ?_)
    intro σ w2 hb2 ea
    have F2 := F.go hb2
    rw [ea]
    clear ea hb2
    go_wp2
    go_ret
    exact ⟨by rw [HL.out]; rfl, F2.b⟩
  · have e2 : (x.state != 3) = true := by simpa using h2
    have HL := hid (HE2.out.trans (if_pos h2))
    clear h2
    go_wp2
    go_ret
    exact ⟨by rw [HL.out]; rfl, F.b⟩
end Go.Proofs.YtclhcjiblfokaaaGreatDoor
namespace Go.Proofs.YtclhcjiblfokaaaGreatDoor
open Go.RowKit

set_option maxRecDepth 100000 in
set_option maxHeartbeats 4000000 in
theorem index_any (ls : List Int) (x : Int) (g n : Nat) (w : World) (hr : Row w g 3 (ls.map (Value.int .i64))) (hn : n = ls.length) (hl : n ≤ 10) :
    Calls Tryz.prog 160 #[.slice (some ⟨g, 0, none⟩) n n, .int .i64 x] w fun e w' => w' = w ∧ ∃ k : Int, e = .returned (.int .i64 k) ∧ (decide (0 ≤ k) = decide (x ∈ ls)) := by
  have HR := hid hr
  have HN := hid hn
  clear hr hn
  go_enter Tryz.func160, Tryz.ntmps160
  go_wp2_with fail
  go_loopw [8] (fun i wr => wr = w ∧ ∃ k : Nat, k ≤ n ∧ i = .int .i64 (k : Int) ∧ Hid (∀ (j : Nat) y, j < k → ls[j]? = some y → y ≠ x)) (fun i _ => n - (intOf i).toNat)
  case atStart => exact ⟨rfl, 0, by omega, rfl, hid (fun j y hj => absurd hj (Nat.not_lt_zero _))⟩
  case round =>
    obtain ⟨hwr, k, hk, rfl, HI⟩ := hrel
    obtain rfl := hwr
    by_cases hlt : k < n
    · obtain ⟨y, hy⟩ : ∃ y, ls[k]? = some y := ⟨ls[k]'(by rw [← HN.out]; exact hlt), List.getElem?_eq_getElem _⟩
      have hlt' : (k : Int) < (n : Int) := by omega
      have c0 : wr.cell? ⟨g, k, none⟩ = some (.int .i64 y) := by rw [HR.out.cell, List.getElem?_map, hy]; rfl
      have HY := hid hy
      clear hy
      by_cases hxy : x = y
      · have e1 : (x == y) = true := by simpa using hxy
        have HX := hid hxy
        clear hxy
        go_wp2
        go_ret
        exact ⟨rfl, _, rfl, by
          have hm : x ∈ ls := by rw [HX.out]; exact List.mem_of_getElem? HY.out
          simp [hm]⟩
      · have e1 : (x == y) = false := by simpa using hxy
        have HX := hid hxy
        clear hxy
        go_wp2
        go_roundw
        case rel => exact ⟨by trivial, k + 1, by omega, by go_num, hid (fun j z hj hz => by
          by_cases e : j = k
          · subst e
            rw [HY.out] at hz
            cases hz
            exact fun h => HX.out h.symm
          · exact HI.out j z (by omega) hz)⟩
        case measure => simp [intOf]; omega
    · have hge : decide ((k : Int) < (n : Int)) = false := by simp; omega
      go_wp2
      go_ret
      exact ⟨rfl, _, rfl, by
        have hm : ¬ x ∈ ls := fun h => by
          obtain ⟨j, hj⟩ := List.getElem?_of_mem h
          have := (List.getElem?_eq_some_iff.1 hj).1
          exact HI.out j x (by have := HN.out; omega) hj rfl
        simp [hm]⟩
set_option maxRecDepth 100000 in
set_option maxHeartbeats 4000000 in
theorem containsI_any (ls : List Int) (x : Int) (g n : Nat) (w : World) (hr : Row w g 3 (ls.map (Value.int .i64))) (hn : n = ls.length) (hl : n ≤ 10) :
    Calls Tryz.prog 126 #[.slice (some ⟨g, 0, none⟩) n n, .int .i64 x] w fun e w' => e = .returned (.bool (decide (x ∈ ls))) ∧ w' = w := by
  have HC := hid (index_any ls x g n w hr hn hl)
  clear hr hn hl
  go_enter Tryz.func126, Tryz.ntmps126
  go_wp2_with fail
  refine HC.out.mono ?_
  rintro e w1 ⟨hw1, k, rfl, hk⟩
  obtain rfl := hw1.symm
  have HK := hid hk
  clear hk
  go_wp2
  go_ret
  exact ⟨by rw [← HK.out]; rfl, rfl⟩
set_option maxRecDepth 100000 in
set_option maxHeartbeats 4000000 in
theorem dendR {y0 y2 y4 y5 y7 y8 y9 y10 y11 y12 y13 y14 y15 y16 y17 y18 y19 y20 y21 y22 y23 y24 y25 y26 y27 y28 y29 y30 y31 y32 z6 z33 z34 z35 z36 z37 z38 z39 z40 : Value} {x0 x1 x2 x3 x4 x6 x7 x8 x9 : Value} {gs b f k n c : Nat} {cn z : Int} {w : World} (hgs : Hid (Row w gs 28 [x0, x1, x2, x3, x4, .slice (some ⟨b, f, none⟩) n c, x6, x7, x8, x9])) (hlb : (k : Int) < (n : Int)) (hbb : b < w.heap.size) (hcb : Hid (w.cell? ⟨b, f + k * 7 + 2, none⟩ = some (.int .i64 cn))) (hc : ∀ W, Below w.heap.size w W → Calls Tryz.prog 127 #[.agg #[x0, x1, x2, x3, x4, .slice (some ⟨b, f, none⟩) n c, x6, x7, x8, x9], .int .i64 cn] W fun e w' => e = .returned (.int .i64 z) ∧ Below W.heap.size W w') (Q : Exit → Act → World → Prop)
    (hQ : Hid (∀ (σ : Nat → Value) (w' : World), Below w.heap.size w w' → σ 8 = .int .i64 z → Q .normal ⟨#[y0, .int .i64 (k : Int), y2, .pointer (some ⟨gs, 0, none⟩), y4, y5, σ 8, y7, y8, y9, y10, y11, y12, y13, y14, y15, y16, y17, y18, y19, y20, y21, y22, y23, y24, y25, y26, y27, y28, y29, y30, y31, y32, σ 0, σ 1, σ 2, σ 3, σ 4, σ 5, σ 6, σ 7], []⟩ w')) :
    Code.wp Tryz.prog (.region 8 ((Tryz.f83.body.bind (regOf 8)).getD #[]) true) Q ⟨#[y0, .int .i64 (k : Int), y2, .pointer (some ⟨gs, 0, none⟩), y4, y5, z6, y7, y8, y9, y10, y11, y12, y13, y14, y15, y16, y17, y18, y19, y20, y21, y22, y23, y24, y25, y26, y27, y28, y29, y30, y31, y32, z33, z34, z35, z36, z37, z38, z39, z40], []⟩ w := by
  conv => arg 2; arg 2; whnf
  conv => arg 4; dsimp only
  refine region_grows (by kernel_rfl) (fun σ => #[y0, .int .i64 (k : Int), y2, .pointer (some ⟨gs, 0, none⟩), y4, y5, σ 8, y7, y8, y9, y10, y11, y12, y13, y14, y15, y16, y17, y18, y19, y20, y21, y22, y23, y24, y25, y26, y27, y28, y29, y30, y31, y32, σ 0, σ 1, σ 2, σ 3, σ 4, σ 5, σ 6, σ 7]) (fun i => ([z33, z34, z35, z36, z37, z38, z39, z40, z6] : List Value).getD i undef) rfl (fun i X W => match i with
    | 0 => X = .agg #[x0, x1, x2, x3, x4, .slice (some ⟨b, f, none⟩) n c, x6, x7, x8, x9]
    | 1 => X = .pointer (some ⟨gs, 5, none⟩)
    | 2 => X = .slice (some ⟨b, f, none⟩) n c
    | 3 => X = .int .i64 (k : Int)
    | 4 => X = .pointer (some ⟨b, f + k * 7, none⟩)
    | 5 => X = .pointer (some ⟨b, f + k * 7 + 2, none⟩)
    | 6 => X = .int .i64 cn
    | 7 => X = .int .i64 z
    | 8 => X = .int .i64 z
    | _ => True) ?_ (by kernel_rfl) ?_ ?_
  · intro i X W W' HB H
    iterate 9 (obtain _ | i := i; first | exact H)
    exact H
  · refine ⟨?_, ?_, ?_, ?_, ?_, ?_, ?_, ?_, ?_, trivial⟩
    all_goals (intro σ W HJ hdep; simp [Region.binds] at hdep; have HJ := hid HJ; obtain ⟨gsk0, gsk1, gsk2, gsk3, gsk4, gsk5, gsk6, gsk7, gsk8, gsk9⟩ := (hgs.out.below HJ.out hgs.out.lt).k10; have bk0 := hcb.out; replace bk0 := (HJ.out.cell (by exact hbb)).trans bk0)
    · refine wpOp_plain rfl rfl ?_; go_simp; exact Left.mk0 _ (by first | rfl | simp [updF, *]) HJ.out rfl
    · refine wpOp_plain rfl rfl ?_; go_simp; exact Left.mk0 _ (by first | rfl | simp [updF, *]) HJ.out rfl
    · refine wpOp_plain rfl rfl ?_; go_simp; exact Left.mk0 _ (by first | rfl | simp [updF, *]) HJ.out rfl
    · refine wpOp_plain rfl rfl ?_; go_simp; exact Left.mk0 _ (by first | rfl | simp [updF, *]) HJ.out rfl
    · refine wpOp_plain rfl rfl ?_; go_simp; exact Left.mk0 _ (by first | rfl | simp [updF, *]) HJ.out rfl
    · refine wpOp_plain rfl rfl ?_; go_simp; exact Left.mk0 _ (by first | rfl | simp [updF, *]) HJ.out rfl
    · refine wpOp_plain rfl rfl ?_; go_simp; exact Left.mk0 _ (by first | rfl | simp [updF, *]) HJ.out rfl
    · have HC := hid (hc W HJ.out); refine wpOp_plain rfl rfl ?_; go_simp; refine HC.out.mono ?_; rintro e w2 ⟨rfl, hb⟩; exact Left.mk _ (by first | rfl | simp [updF, *]) hb HJ.out rfl
    · refine wpOp_plain rfl rfl ?_; go_simp; exact Left.mk0 _ (by first | rfl | simp [updF, *]) HJ.out rfl
  · intro σ w' hb hg
    exact hQ.out σ w' hb (hg 8 (by decide))
set_option maxRecDepth 100000 in
set_option maxHeartbeats 4000000 in
theorem dend_any (s : St) (v : Value) (N : Nat) (w : World) (i : Int) (ls : List Int) (gl nl : Nat) (hv : StV w N v s) (hN : N ≤ w.heap.size) (hfit : s.fits) (hl : Row w gl 3 (ls.map (Value.int .i64))) (hnl : nl = ls.length) (h10 : nl ≤ 10) :
    Calls Tryz.prog 83 #[v, .int .i64 i, .slice (some ⟨gl, 0, none⟩) nl nl] w fun e w' => e = .returned (.int .i64 (cendL s i ls)) ∧ Below w.heap.size w w' := by
  have HE := hid (show cendL s i ls = if wrongS s ≠ 0 then wrongS s else if i < 0 ∨ (s.chans.length : Int) ≤ i then 6 else if (chAt s i).state ∈ ls then overN s (chAt s i).conn else 12 from rfl)
  have HW1 := hid (fun wx (hx : Below w.heap.size w wx) => stWrongC s v N wx (hv.below (hx.mono hN)) (Nat.le_trans hN hx.size) hfit)
  have HUS := hid (fun (h0 : wrongS s = 0) (c : Int) wx (hx : Below w.heap.size w wx) => use_any s v N wx c (hv.below (hx.mono hN)) (Nat.le_trans hN hx.size) h0)
  have HCO := hid (fun (x : Int) wx (hx : Below w.heap.size w wx) => containsI_any ls x gl nl wx (hl.below hx hl.lt) hnl h10)
  obtain ⟨o1, c1, o2, c2, o3, c3, o4, c4, o5, c5, o6, c6, o7, c7, rfl, hm⟩ := hv.open
  have HM := hid hm
  clear hv hm hfit hl hnl h10
  go_enter Tryz.func83, Tryz.ntmps83
  go_upto_region 1 with fail
  refine fbox1 ?_
  intro w0 F0 hs
  go_wp2_with (refine F0.load 0 rfl rfl rfl rfl structState ?_)
  refine (HW1.out _ F0.b).mono ?_
  rintro e w1 ⟨rfl, hb1⟩
  have F := F0.go hb1
  clear hb1 F0 hs
  by_cases hz : wrongS s = 0
  · have H0 := hid hz
    have HS := hid (HE.out.trans (if_neg (by simp [hz])))
    rw [hz]
    clear hz
    obtain ⟨k0, k1, k2, k3, k4, k5, k6, k7, k8, k9⟩ := F.r0.k10
    by_cases h0 : i < 0
    · have e0 : decide (i < 0) = true := by simpa using h0
      go_wp2
      go_ret
      exact ⟨by rw [HS.out, if_pos (.inl h0)]; rfl, F.b⟩
    have e0 : decide (i < 0) = false := by simpa using h0
    by_cases h1 : (s.chans.length : Int) ≤ i
    · have e1 : decide ((s.chans.length : Int) ≤ i) = true := by simpa using h1
      go_wp2
      go_ret
      exact ⟨by rw [HS.out, if_pos (.inr h1)]; rfl, F.b⟩
    have e1 : decide ((s.chans.length : Int) ≤ i) = false := by simpa using h1
    have HE2 := hid (HS.out.trans (if_neg (by omega)))
    obtain ⟨k, rfl⟩ : ∃ k : Nat, i = (k : Int) := ⟨i.toNat, by omega⟩
    have hlt : (k : Int) < (s.chans.length : Int) := by omega
    obtain ⟨x, hx⟩ : ∃ x, s.chans[k]? = some x := ⟨_, List.getElem?_eq_getElem (by omega)⟩
    rw [chAt_some hx] at HE2
    obtain ⟨b, f, rfl, hb, x0, -, x2, -⟩ := (HM.out.below (F.b.mono hN)).chans.chan rfl hx
    have HX2 := hid x2
    clear x2 hx HE HS
    have hbl : b < w1.heap.size := by have := F.b.size; omega
    go_wp2_with fail
    refine (HCO.out x.state w1 F.b).mono ?_
    rintro e w2 ⟨rfl, hw2⟩
    obtain rfl := hw2.symm
    by_cases h2 : x.state ∈ ls
    · have HL := hid (HE2.out.trans (if_pos h2))
      rw [show decide (x.state ∈ ls) = true from decide_eq_true h2]
      clear h2
      go_upto_region 8 with fail
      refine dendR (hid F.r0) hlt hbl HX2 (z := overN s x.conn) (fun W hW => HUS.out H0.out x.conn W (F.go hW).b) _ (hid ?_)
      intro σ w3 hb3 ea
      have F2 := F.go hb3
      rw [ea]
      clear ea hb3
      go_wp2
      go_ret
      exact ⟨by rw [HL.out]; rfl, F2.b⟩
    · have HL := hid (HE2.out.trans (if_neg h2))
      rw [show decide (x.state ∈ ls) = false from decide_eq_false h2]
      clear h2
      go_wp2
      go_ret
      exact ⟨by rw [HL.out]; rfl, F.b⟩
  · have e0 : (wrongS s != 0) = true := by simpa using hz
    have HS := hid (HE.out.trans (if_pos hz))
    clear hz
    generalize wrongS s = z at *
    go_wp2
    go_ret
    exact ⟨by rw [HS.out]; rfl, F.b⟩
end Go.Proofs.YtclhcjiblfokaaaGreatDoor
namespace Go.Proofs.YtclhcjiblfokaaaGreatDoor
open Go.RowKit

theorem Many.client {w : World} {N k n cap : Nat} {oa : Option Addr} {l : List Cl} {x : Cl} (h : Many ClR 4 w N (.slice oa n cap) l) (hn : n = l.length) (hx : l[k]? = some x) : ∃ b f ka ma, oa = some ⟨b, f, none⟩ ∧ b < N ∧ (w.cell? ⟨b, f + k * 4, none⟩ = some (.string x.chain) ∧ w.cell? ⟨b, f + k * 4 + 1, none⟩ = some (.int .i64 x.trust) ∧ w.cell? ⟨b, f + k * 4 + 2, none⟩ = some (.bool x.frozen) ∧ w.cell? ⟨b, f + k * 4 + 3, none⟩ = some (.slice ka x.known.length ma)) ∧ ClV w N (.agg #[.string x.chain, .int .i64 x.trust, .bool x.frozen, .slice ka x.known.length ma]) x := by
  have := (List.getElem?_eq_some_iff.1 hx).1
  obtain ⟨b, f, rfl, gx⟩ := h.spot (by omega)
  obtain ⟨hb, r, hr, cx⟩ := gx k x hx
  obtain ⟨kc, rfl, hkc⟩ := hr
  obtain ⟨ka, ma, rfl, -⟩ := hkc.shape
  exact ⟨b, f, ka, ma, rfl, hb, ⟨cx 0 _ rfl, cx 1 _ rfl, cx 2 _ rfl, cx 3 _ rfl⟩, _, rfl, hkc⟩
end Go.Proofs.YtclhcjiblfokaaaGreatDoor
namespace Go.Proofs.YtclhcjiblfokaaaGreatDoor
open Go.RowKit

/-- an end: a channel, and the client by which it is shown what stands on the other chain -/
def EndV (w : World) (N : Nat) (ev : Value) (c : Ch) (f : Cl) : Prop := ∃ ka ma, ev = .agg #[.int .i64 c.state, .bool c.ordered, .int .i64 c.conn, .int .i64 c.ochan, .int .i64 c.send, .int .i64 c.recv, .int .i64 c.ack, .string f.chain, .int .i64 f.trust, .bool f.frozen, .slice ka f.known.length ma] ∧ ClV w N (.agg #[.string f.chain, .int .i64 f.trust, .bool f.frozen, .slice ka f.known.length ma]) f
theorem EndV.below {w w' : World} {N : Nat} {ev : Value} {c : Ch} {f : Cl} (h : EndV w N ev c f) (hb : Below N w w') : EndV w' N ev c f := by
  obtain ⟨ka, ma, e, h⟩ := h
  exact ⟨ka, ma, e, h.below hb⟩
/-- what an end's answer is: an end, or none -/
def EndR (w : World) (N : Nat) (ev : Value) (s : St) (i z : Int) : Prop := (z = 0 → EndV w N ev (chAt s i) (folOf s i)) ∧ (z ≠ 0 → ev = .agg #[.int .i64 0, .bool false, .int .i64 0, .int .i64 0, .int .i64 0, .int .i64 0, .int .i64 0, .string ⟨#[]⟩, .int .i64 0, .bool false, .slice none 0 0])
theorem EndR.cells {w : World} {N : Nat} {ev : Value} {s : St} {i z : Int} (h : EndR w N ev s i z) : ∃ x0 x1 x2 x3 x4 x5 x6 x7 x8 x9 x10, ev = .agg #[x0, x1, x2, x3, x4, x5, x6, x7, x8, x9, x10] ∧ (#[x0, x1, x2, x3, x4, x5, x6, x7, x8, x9, x10] : Array Value).all (·.oneCell') = true := by
  by_cases hz : z = 0
  · obtain ⟨ka, ma, e, -⟩ := h.1 hz
    exact ⟨_, _, _, _, _, _, _, _, _, _, _, e, by simp [Value.oneCell']⟩
  · exact ⟨_, _, _, _, _, _, _, _, _, _, _, h.2 hz, by simp [Value.oneCell']⟩
set_option maxRecDepth 100000 in
set_option maxHeartbeats 4000000 in
theorem pkEndR {y0 y1 y2 y4 y5 y7 y8 y10 y11 y12 y13 y14 y15 y16 y17 y18 y19 y20 y21 y22 z23 z24 z25 z26 z27 z28 z29 z30 z31 z32 z33 z34 z35 : Value} {x0 x1 x2 x5 x6 x7 x8 x9 a0 a1 a3 a4 a5 a6 l0 l1 l2 l3 : Value} {gs go gr b1 f1 n1 c1 b2 f2 n2 c2 k j : Nat} {old : List Value} {w : World} (hgs : Hid (Row w gs 28 [x0, x1, x2, .slice (some ⟨b1, f1, none⟩) n1 c1, .slice (some ⟨b2, f2, none⟩) n2 c2, x5, x6, x7, x8, x9])) (hgo : Hid (Row w go 53 [a0, a1, .int .i64 (k : Int), a3, a4, a5, a6])) (hlb2 : (k : Int) < (n2 : Int)) (hbb2 : b2 < w.heap.size) (hcb2 : Hid (w.cell? ⟨b2, f2 + k * 4 + 1, none⟩ = some (.int .i64 (j : Int)))) (hlb1 : (j : Int) < (n1 : Int)) (hbb1 : b1 < w.heap.size) (hcb1 : Hid (w.cell? ⟨b1, f1 + j * 4, none⟩ = some (l0) ∧ w.cell? ⟨b1, f1 + j * 4 + 1, none⟩ = some (l1) ∧ w.cell? ⟨b1, f1 + j * 4 + 2, none⟩ = some (l2) ∧ w.cell? ⟨b1, f1 + j * 4 + 3, none⟩ = some (l3))) (hgr : Hid (Row w gr 81 old)) (hol : old.length = 11) (hone : (#[a0, a1, .int .i64 (k : Int), a3, a4, a5, a6, l0, l1, l2, l3] : Array Value).all (·.oneCell') = true)  (Q : Exit → Act → World → Prop)
    (hQ : Hid (∀ (σ : Nat → Value) (w' : World), Below w.heap.size w w' → Q .normal ⟨#[y0, y1, y2, .pointer (some ⟨gs, 0, none⟩), y4, y5, .pointer (some ⟨gr, 0, none⟩), .int .i64 0, y8, .pointer (some ⟨go, 0, none⟩), y10, y11, y12, y13, y14, y15, y16, y17, y18, y19, y20, y21, y22, σ 0, σ 1, σ 2, σ 3, σ 4, σ 5, σ 6, σ 7, σ 8, σ 9, σ 10, σ 11, σ 12], []⟩ (w'.setRow gr #[a0, a1, .int .i64 (k : Int), a3, a4, a5, a6, l0, l1, l2, l3]))) :
    Code.wp Tryz.prog (.region 5 ((Tryz.f32.body.bind (regOf 5)).getD #[]) true) Q ⟨#[y0, y1, y2, .pointer (some ⟨gs, 0, none⟩), y4, y5, .pointer (some ⟨gr, 0, none⟩), y7, y8, .pointer (some ⟨go, 0, none⟩), y10, y11, y12, y13, y14, y15, y16, y17, y18, y19, y20, y21, y22, z23, z24, z25, z26, z27, z28, z29, z30, z31, z32, z33, z34, z35], []⟩ w := by
  conv => arg 2; arg 2; whnf
  conv => arg 4; dsimp only
  refine region_grows_tail 13 (by kernel_rfl) (fun σ => #[y0, y1, y2, .pointer (some ⟨gs, 0, none⟩), y4, y5, .pointer (some ⟨gr, 0, none⟩), y7, y8, .pointer (some ⟨go, 0, none⟩), y10, y11, y12, y13, y14, y15, y16, y17, y18, y19, y20, y21, y22, σ 0, σ 1, σ 2, σ 3, σ 4, σ 5, σ 6, σ 7, σ 8, σ 9, σ 10, σ 11, σ 12]) (fun i => ([z23, z24, z25, z26, z27, z28, z29, z30, z31, z32, z33, z34, z35] : List Value).getD i undef) rfl (fun i X W => match i with
    | 0 => X = .agg #[a0, a1, .int .i64 (k : Int), a3, a4, a5, a6]
    | 1 => X = .pointer (some ⟨gs, 3, none⟩)
    | 2 => X = .slice (some ⟨b1, f1, none⟩) n1 c1
    | 3 => X = .pointer (some ⟨gs, 4, none⟩)
    | 4 => X = .slice (some ⟨b2, f2, none⟩) n2 c2
    | 5 => X = .pointer (some ⟨go, 2, none⟩)
    | 6 => X = .int .i64 (k : Int)
    | 7 => X = .pointer (some ⟨b2, f2 + k * 4, none⟩)
    | 8 => X = .pointer (some ⟨b2, f2 + k * 4 + 1, none⟩)
    | 9 => X = .int .i64 (j : Int)
    | 10 => X = .pointer (some ⟨b1, f1 + j * 4, none⟩)
    | 11 => X = .agg #[l0, l1, l2, l3]
    | 12 => X = .agg #[a0, a1, .int .i64 (k : Int), a3, a4, a5, a6, l0, l1, l2, l3]
    | _ => True) ?_ (by kernel_rfl) ?_ ?_
  · intro i X W W' HB H
    iterate 13 (obtain _ | i := i; first | exact H)
    exact H
  · refine ⟨?_, ?_, ?_, ?_, ?_, ?_, ?_, ?_, ?_, ?_, ?_, ?_, ?_, trivial⟩
    all_goals (intro σ W HJ hdep; simp [Region.binds] at hdep; have HJ := hid HJ; obtain ⟨gsk0, gsk1, gsk2, gsk3, gsk4, gsk5, gsk6, gsk7, gsk8, gsk9⟩ := (hgs.out.below HJ.out hgs.out.lt).k10; obtain ⟨gok0, gok1, gok2, gok3, gok4, gok5, gok6⟩ := (hgo.out.below HJ.out hgo.out.lt).k7; have b2k0 := hcb2.out; replace b2k0 := (HJ.out.cell (by exact hbb2)).trans b2k0; obtain ⟨b1k0, b1k1, b1k2, b1k3⟩ := hcb1.out; replace b1k0 := (HJ.out.cell (by exact hbb1)).trans b1k0; replace b1k1 := (HJ.out.cell (by exact hbb1)).trans b1k1; replace b1k2 := (HJ.out.cell (by exact hbb1)).trans b1k2; replace b1k3 := (HJ.out.cell (by exact hbb1)).trans b1k3)
    · refine wpOp_plain rfl rfl ?_; go_simp; exact Left.mk0 _ (by first | rfl | simp [updF, *]) HJ.out rfl
    · refine wpOp_plain rfl rfl ?_; go_simp; exact Left.mk0 _ (by first | rfl | simp [updF, *]) HJ.out rfl
    · refine wpOp_plain rfl rfl ?_; go_simp; exact Left.mk0 _ (by first | rfl | simp [updF, *]) HJ.out rfl
    · refine wpOp_plain rfl rfl ?_; go_simp; exact Left.mk0 _ (by first | rfl | simp [updF, *]) HJ.out rfl
    · refine wpOp_plain rfl rfl ?_; go_simp; exact Left.mk0 _ (by first | rfl | simp [updF, *]) HJ.out rfl
    · refine wpOp_plain rfl rfl ?_; go_simp; exact Left.mk0 _ (by first | rfl | simp [updF, *]) HJ.out rfl
    · refine wpOp_plain rfl rfl ?_; go_simp; exact Left.mk0 _ (by first | rfl | simp [updF, *]) HJ.out rfl
    · refine wpOp_plain rfl rfl ?_; go_simp; exact Left.mk0 _ (by first | rfl | simp [updF, *]) HJ.out rfl
    · refine wpOp_plain rfl rfl ?_; go_simp; exact Left.mk0 _ (by first | rfl | simp [updF, *]) HJ.out rfl
    · refine wpOp_plain rfl rfl ?_; go_simp; exact Left.mk0 _ (by first | rfl | simp [updF, *]) HJ.out rfl
    · refine wpOp_plain rfl rfl ?_; go_simp; exact Left.mk0 _ (by first | rfl | simp [updF, *]) HJ.out rfl
    · refine wpOp_plain rfl rfl ?_; go_simp; exact Left.mk0 _ (by first | rfl | simp [updF, *]) HJ.out rfl
    · refine wpOp_plain rfl rfl ?_; go_simp; exact Left.mk0 _ (by first | rfl | simp [updF, *]) HJ.out rfl
  · intro σ w' hb hg
    have h0 : σ 12 = .agg #[a0, a1, .int .i64 (k : Int), a3, a4, a5, a6, l0, l1, l2, l3] := hg 12 (by decide)
    have hrr := hgr.out.below hb hgr.out.lt
    have HQ := hid (hQ.out σ w' hb)
    clear hg hb
    simp only [List.drop_succ_cons, List.drop_zero]
    refine wpList_store_row rfl _ _ _ rfl gr #[a0, a1, .int .i64 (k : Int), a3, a4, a5, a6, l0, l1, l2, l3] rfl h0 81 old.toArray hrr (by kernel_rfl) (by simpa using hol) hone ?_
    rw [h0] at HQ
    go_wp2
    exact HQ.out
set_option maxRecDepth 100000 in
set_option maxHeartbeats 4000000 in
theorem pend_any (s : St) (v : Value) (N : Nat) (w : World) (i : Int) (ls : List Int) (gl nl : Nat) (hv : StV w N v s) (hN : N ≤ w.heap.size) (hfit : s.fits) (hl : Row w gl 3 (ls.map (Value.int .i64))) (hnl : nl = ls.length) (h10 : nl ≤ 10) :
    Calls Tryz.prog 32 #[v, .int .i64 i, .slice (some ⟨gl, 0, none⟩) nl nl] w fun e w' => Below w.heap.size w w' ∧ ∃ ev, e = .returned (.tuple #[ev, .int .i64 (cendL s i ls)]) ∧ EndR w' N ev s i (cendL s i ls) := by
  have HD := hid (fun wx (hx : Below w.heap.size w wx) => dend_any s v N wx i ls gl nl (hv.below (hx.mono hN)) (Nat.le_trans hN hx.size) hfit (hl.below hx hl.lt) hnl h10)
  obtain ⟨o1, c1, o2, c2, o3, c3, o4, c4, o5, c5, o6, c6, o7, c7, rfl, hm⟩ := hv.open
  have HM := hid hm
  clear hv hm hfit hl hnl h10
  go_enter Tryz.func32, Tryz.ntmps32
  go_upto_region 1 with fail
  refine fbox2 ?_
  intro w0 F0 hs
  go_wp2_with (refine F0.load 0 rfl rfl rfl rfl structState ?_)
  refine (HD.out _ F0.b).mono ?_
  rintro e w1 ⟨rfl, hb1⟩
  have F := F0.go hb1
  clear hb1 F0 hs HD
  by_cases hz : cendL s i ls = 0
  · obtain ⟨j, k, m, c, d, f, hij, hj, hca, hck, hd, hdm, hf, hfo, -, -, -⟩ := cendL_fol hz
    have HR := hid (show ∀ (w : World) (ev : Value), EndV w N ev c f → EndR w N ev s i (cendL s i ls) from fun w ev h => ⟨fun _ => by rw [hca, hfo]; exact h, fun h => absurd hz h⟩)
    have HZ := hid hz
    rw [hz]
    subst hij
    have hlj : (j : Int) < (s.chans.length : Int) := by have := (List.getElem?_eq_some_iff.1 hj).1; omega
    have hlk : (k : Int) < (s.conns.length : Int) := by have := (List.getElem?_eq_some_iff.1 hd).1; omega
    have hlm : (m : Int) < (s.clients.length : Int) := by have := (List.getElem?_eq_some_iff.1 hf).1; omega
    have HJ := hid hj
    have HDD := hid hd
    have HFF := hid hf
    clear hz hj hd hf hca hfo
    obtain ⟨s0, s1, s2, s3, s4, s5, s6⟩ := c
    simp only at hck
    subst hck
    obtain ⟨d0, d1, d2, d3⟩ := d
    simp only at hdm
    subst hdm
    obtain ⟨b, g, rfl, hb, x0, x1, x2, x3, x4, x5, x6⟩ := (HM.out.below (F.b.mono hN)).chans.chan rfl HJ.out
    have k5 := F.r0.k10.2.2.2.2.2.1
    go_upto_region 5 with fail
    refine F.box ?_
    intro w2 F2 hs2 hb2
    clear x0 x1 x2 x3 x4 x5 x6 k5 hs2 hb2 F hb
    obtain ⟨b2, f2, rfl, hbb2, -, y1, -⟩ := (HM.out.below (F2.b.mono hN)).conns.conn rfl HDD.out
    obtain ⟨b1, f1, ka, ma, rfl, hbb1, hcc, hcv⟩ := (HM.out.below (F2.b.mono hN)).clients.client rfl HFF.out
    have hsz := F2.b.size
    have HCV := hid hcv
    refine pkEndR (hid F2.r0) (hid F2.r2) hlk (by omega) (hid y1) hlm (by omega) (hid hcc) (hid F2.r1) rfl (by simp [Value.oneCell']) _ (hid ?_)
    intro σ w3 hb3
    have F3 := F2.go hb3
    have F4 := F3.only (i := 1) rfl (Row.setRow F3.r1 [.int .i64 s0, .bool s1, .int .i64 (k : Int), .int .i64 s3, .int .i64 s4, .int .i64 s5, .int .i64 s6, .string f.chain, .int .i64 f.trust, .bool f.frozen, .slice ka f.known.length ma]) (Only.row _ _ _)
    have HC4 := hid (fun cs => (HCV.out.below (hb3.mono (Nat.le_trans hN hsz))).below (setRow_kept (g := w.heap.size + 1) (Below.refl N w3) (by omega) cs))
    clear hcc hcv y1 hb3 HCV
    go_wp2
    refine ret_ct Tryz.results32 rfl F4.r1 structEnd rfl ⟨F4.b, _, by rw [HZ.out]; rfl, HR.out _ _ ⟨ka, ma, rfl, HC4.out _⟩⟩
  · have e0 : (cendL s i ls != 0) = true := by simpa using hz
    have HR := hid (show ∀ (w : World), EndR w N (.agg #[.int .i64 0, .bool false, .int .i64 0, .int .i64 0, .int .i64 0, .int .i64 0, .int .i64 0, .string ⟨#[]⟩, .int .i64 0, .bool false, .slice none 0 0]) s i (cendL s i ls) from fun w => ⟨fun h => absurd h hz, fun _ => rfl⟩)
    clear hz
    go_wp2_with (refine F.store 1 rfl rfl rfl rfl rfl structEnd rfl (by simp [Value.oneCell']) ?_; intro w2 F2 O2)
    exact ret_ct Tryz.results32 rfl F2.r1 structEnd rfl ⟨F2.b, _, rfl, HR.out _⟩
end Go.Proofs.YtclhcjiblfokaaaGreatDoor
namespace Go.Proofs.YtclhcjiblfokaaaGreatDoor
open Go.RowKit

set_option maxRecDepth 100000 in
set_option maxHeartbeats 4000000 in
theorem pwrong_any (p : Pk) (v : Value) (N : Nat) (w : World) (hv : PkV w N v p) : Calls Tryz.prog 7 #[v] w fun e w' => e = .returned (.int .i64 (wrongPk p)) ∧ Below w.heap.size w w' := by
  have HE := hid (show wrongPk p = if (fromB 0 p.src && (fromB 0 p.dst && (fromB 1 p.seq && fromB 1 p.tmo))) = false then 3 else if 150 < p.data.length then 4 else 0 from rfl)
  obtain ⟨od, cd, rfl, -⟩ := hv.open
  clear hv
  have HF := hid (fun lo n W => from_any lo n W)
  go_enter Tryz.func7, Tryz.ntmps7
  go_upto_region 1 with fail
  refine fbox1 ?_
  intro w0 F hs
  obtain ⟨k0, k1, k2, k3, k4⟩ := F.r0.k5
  have HB := hid F.b
  clear F hs
  cases h1 : fromB 0 p.src with
  | false =>
    have HR := hid (show wrongPk p = 3 by rw [HE.out, h1]; rfl)
    go_wp2_with (go_at_call 23; refine (HF.out _ _ _).mono ?_; rintro e w2 ⟨rfl, hw2⟩; obtain rfl := hw2.symm; first | rw [h1] | skip)
    go_ret
    exact ⟨by rw [HR.out]; rfl, HB.out⟩
  | true =>
    cases h2 : fromB 0 p.dst with
    | false =>
      have HR := hid (show wrongPk p = 3 by rw [HE.out, h1, h2]; rfl)
      go_wp2_with (go_at_call 23; refine (HF.out _ _ _).mono ?_; rintro e w2 ⟨rfl, hw2⟩; obtain rfl := hw2.symm; first | rw [h1] | rw [h2] | skip)
      go_ret
      exact ⟨by rw [HR.out]; rfl, HB.out⟩
    | true =>
      cases h3 : fromB 1 p.seq with
      | false =>
        have HR := hid (show wrongPk p = 3 by rw [HE.out, h1, h2, h3]; rfl)
        go_wp2_with (go_at_call 23; refine (HF.out _ _ _).mono ?_; rintro e w2 ⟨rfl, hw2⟩; obtain rfl := hw2.symm; first | rw [h1] | rw [h2] | rw [h3] | skip)
        go_ret
        exact ⟨by rw [HR.out]; rfl, HB.out⟩
      | true =>
        cases h4 : fromB 1 p.tmo with
        | false =>
          have HR := hid (show wrongPk p = 3 by rw [HE.out, h1, h2, h3, h4]; rfl)
          go_wp2_with (go_at_call 23; refine (HF.out _ _ _).mono ?_; rintro e w2 ⟨rfl, hw2⟩; obtain rfl := hw2.symm; first | rw [h1] | rw [h2] | rw [h3] | rw [h4] | skip)
          go_ret
          exact ⟨by rw [HR.out]; rfl, HB.out⟩
        | true =>
          have HE2 := hid (show wrongPk p = if 150 < p.data.length then 4 else 0 by rw [HE.out, h1, h2, h3, h4]; rfl)
          by_cases h5 : 150 < p.data.length
          · have e5 : decide ((150 : Int) < (p.data.length : Int)) = true := by simp; omega
            have HR := hid (HE2.out.trans (if_pos h5))
            go_wp2_with (go_at_call 23; refine (HF.out _ _ _).mono ?_; rintro e w2 ⟨rfl, hw2⟩; obtain rfl := hw2.symm; first | rw [h1] | rw [h2] | rw [h3] | rw [h4] | skip)
            go_ret
            exact ⟨by rw [HR.out]; rfl, HB.out⟩
          · have e5 : decide ((150 : Int) < (p.data.length : Int)) = false := by simp; omega
            have HR := hid (HE2.out.trans (if_neg h5))
            go_wp2_with (go_at_call 23; refine (HF.out _ _ _).mono ?_; rintro e w2 ⟨rfl, hw2⟩; obtain rfl := hw2.symm; first | rw [h1] | rw [h2] | rw [h3] | rw [h4] | skip)
            go_ret
            exact ⟨by rw [HR.out]; rfl, HB.out⟩
end Go.Proofs.YtclhcjiblfokaaaGreatDoor
namespace Go.Proofs.YtclhcjiblfokaaaGreatDoor
open Go.RowKit

set_option maxRecDepth 100000 in
set_option maxHeartbeats 4000000 in
theorem outR {y0 y1 y2 y3 y6 y7 y8 y9 y10 y11 y12 y28 y29 y30 y31 y32 y33 y34 y35 y36 y37 y38 z13 z14 z15 z16 z17 z18 z19 z20 z21 z22 z23 z24 z25 z26 z27 : Value} {e0 e1 e2 e3 e4 e5 e6 e7 e8 e9 p0 p1 p2 p3 : Value} {ge gp b f m n c : Nat} {t h : Int} {w : World} (hge : Hid (Row w ge 81 [e0, e1, e2, e3, e4, e5, e6, e7, e8, e9, .slice (some ⟨b, f, none⟩) n c])) (hgp : Hid (Row w gp 31 [p0, p1, p2, p3, .int .i64 t])) (hlb : (m : Int) < (n : Int)) (hbb : b < w.heap.size) (hcb : Hid (w.cell? ⟨b, f + m * 4, none⟩ = some (.int .i64 h))) (hwr : IntKind.i64.wrap ((n : Int) - 1) = (m : Int)) (Q : Exit → Act → World → Prop)
    (hQ : Hid (∀ (σ : Nat → Value) (w' : World), Below w.heap.size w w' → σ 14 = .bool (decide (t ≤ h)) → Q .normal ⟨#[y0, y1, y2, y3, .pointer (some ⟨ge, 0, none⟩), .pointer (some ⟨gp, 0, none⟩), y6, y7, y8, y9, y10, y11, y12, σ 14, σ 0, σ 1, σ 2, σ 3, σ 4, σ 5, σ 6, σ 7, σ 8, σ 9, σ 10, σ 11, σ 12, σ 13, y28, y29, y30, y31, y32, y33, y34, y35, y36, y37, y38], []⟩ w')) :
    Code.wp Tryz.prog (.region 4 ((Tryz.f33.body.bind (regOf 4)).getD #[]) true) Q ⟨#[y0, y1, y2, y3, .pointer (some ⟨ge, 0, none⟩), .pointer (some ⟨gp, 0, none⟩), y6, y7, y8, y9, y10, y11, y12, z13, z14, z15, z16, z17, z18, z19, z20, z21, z22, z23, z24, z25, z26, z27, y28, y29, y30, y31, y32, y33, y34, y35, y36, y37, y38], []⟩ w := by
  conv => arg 2; arg 2; whnf
  conv => arg 4; dsimp only
  refine region_grows (by kernel_rfl) (fun σ => #[y0, y1, y2, y3, .pointer (some ⟨ge, 0, none⟩), .pointer (some ⟨gp, 0, none⟩), y6, y7, y8, y9, y10, y11, y12, σ 14, σ 0, σ 1, σ 2, σ 3, σ 4, σ 5, σ 6, σ 7, σ 8, σ 9, σ 10, σ 11, σ 12, σ 13, y28, y29, y30, y31, y32, y33, y34, y35, y36, y37, y38]) (fun i => ([z14, z15, z16, z17, z18, z19, z20, z21, z22, z23, z24, z25, z26, z27, z13] : List Value).getD i undef) rfl (fun i X W => match i with
    | 0 => X = .pointer (some ⟨ge, 7, none⟩)
    | 1 => X = .pointer (some ⟨ge, 10, none⟩)
    | 2 => X = .slice (some ⟨b, f, none⟩) n c
    | 3 => X = .pointer (some ⟨ge, 7, none⟩)
    | 4 => X = .pointer (some ⟨ge, 10, none⟩)
    | 5 => X = .slice (some ⟨b, f, none⟩) n c
    | 6 => X = .int .i64 (n : Int)
    | 7 => X = .int .i64 (m : Int)
    | 8 => X = .pointer (some ⟨b, f + m * 4, none⟩)
    | 9 => X = .pointer (some ⟨b, f + m * 4, none⟩)
    | 10 => X = .int .i64 h
    | 11 => X = .pointer (some ⟨gp, 4, none⟩)
    | 12 => X = .int .i64 t
    | 13 => X = .bool (decide (t ≤ h))
    | 14 => X = .bool (decide (t ≤ h))
    | _ => True) ?_ (by kernel_rfl) ?_ ?_
  · intro i X W W' HB H
    iterate 15 (obtain _ | i := i; first | exact H)
    exact H
  · refine ⟨?_, ?_, ?_, ?_, ?_, ?_, ?_, ?_, ?_, ?_, ?_, ?_, ?_, ?_, ?_, trivial⟩
    all_goals (intro σ W HJ hdep; simp [Region.binds] at hdep; have HJ := hid HJ; obtain ⟨gek0, gek1, gek2, gek3, gek4, gek5, gek6, gek7, gek8, gek9, gek10⟩ := (hge.out.below HJ.out hge.out.lt).k11; obtain ⟨gpk0, gpk1, gpk2, gpk3, gpk4⟩ := (hgp.out.below HJ.out hgp.out.lt).k5; have bk0 := hcb.out; replace bk0 := (HJ.out.cell (by exact hbb)).trans bk0)
    · refine wpOp_plain rfl rfl ?_; go_simp; exact Left.mk0 _ (by first | rfl | simp [updF, *]) HJ.out rfl
    · refine wpOp_plain rfl rfl ?_; go_simp; exact Left.mk0 _ (by first | rfl | simp [updF, *]) HJ.out rfl
    · refine wpOp_plain rfl rfl ?_; go_simp; exact Left.mk0 _ (by first | rfl | simp [updF, *]) HJ.out rfl
    · refine wpOp_plain rfl rfl ?_; go_simp; exact Left.mk0 _ (by first | rfl | simp [updF, *]) HJ.out rfl
    · refine wpOp_plain rfl rfl ?_; go_simp; exact Left.mk0 _ (by first | rfl | simp [updF, *]) HJ.out rfl
    · refine wpOp_plain rfl rfl ?_; go_simp; exact Left.mk0 _ (by first | rfl | simp [updF, *]) HJ.out rfl
    · refine wpOp_plain rfl rfl ?_; go_simp; exact Left.mk0 _ (by first | rfl | simp [updF, *]) HJ.out rfl
    · refine wpOp_plain rfl rfl ?_; go_simp; exact Left.mk0 _ (by first | rfl | simp [updF, *]) HJ.out rfl
    · refine wpOp_plain rfl rfl ?_; go_simp; exact Left.mk0 _ (by first | rfl | simp [updF, *]) HJ.out rfl
    · refine wpOp_plain rfl rfl ?_; go_simp; exact Left.mk0 _ (by first | rfl | simp [updF, *]) HJ.out rfl
    · refine wpOp_plain rfl rfl ?_; go_simp; exact Left.mk0 _ (by first | rfl | simp [updF, *]) HJ.out rfl
    · refine wpOp_plain rfl rfl ?_; go_simp; exact Left.mk0 _ (by first | rfl | simp [updF, *]) HJ.out rfl
    · refine wpOp_plain rfl rfl ?_; go_simp; exact Left.mk0 _ (by first | rfl | simp [updF, *]) HJ.out rfl
    · refine wpOp_plain rfl rfl ?_; go_simp; exact Left.mk0 _ (by first | rfl | simp [updF, *]) HJ.out rfl
    · refine wpOp_plain rfl rfl ?_; go_simp; exact Left.mk0 _ (by first | rfl | simp [updF, *]) HJ.out rfl
  · intro σ w' hb hg
    exact hQ.out σ w' hb (hg 14 (by decide))
set_option maxRecDepth 100000 in
set_option maxHeartbeats 4000000 in
theorem outs_any (s : St) (c : Ch) (f : Cl) (p : Pk) (v ev pv : Value) (N : Nat) (w : World) (hv : StV w N v s) (he : EndV w N ev c f) (hp : PkV w N pv p) (hN : N ≤ w.heap.size) (hcl : wrongCl f = 0) :
    Calls Tryz.prog 33 #[v, ev, pv] w fun e w' => e = .returned (.int .i64 (outN s p (lastH f) c.send)) ∧ Below w.heap.size w w' := by
  have HWP := hid (fun wx (hx : Below w.heap.size w wx) => pwrong_any p pv N wx (hp.below (hx.mono hN)))
  obtain ⟨o1, c1, o2, c2, o3, c3, o4, c4, o5, c5, o6, c6, o7, c7, rfl, hm⟩ := hv.open
  obtain ⟨ka, ma, rfl, hfv⟩ := he
  obtain ⟨od, cd, rfl, hd⟩ := hp.open
  obtain ⟨kv, ekv, hk⟩ := hfv
  have ekv' : kv = .slice ka f.known.length ma := by simpa using ekv.symm
  subst ekv'
  obtain ⟨_, _, ⟨hn1, hn2⟩, hall, _⟩ := (wrongCl_iff f).1 hcl
  obtain ⟨n, hn⟩ : ∃ n, f.known.length = n + 1 := ⟨f.known.length - 1, by omega⟩
  obtain ⟨x, hx⟩ : ∃ x, f.known[n]? = some x := ⟨f.known[n]'(by omega), List.getElem?_eq_getElem _⟩
  have HLH := hid (show lastH f = x.height by unfold lastH; rw [List.getLast?_eq_getElem?, hn, Nat.add_sub_cancel, hx])
  have HE := hid (show outN s p (lastH f) c.send = if wrongPk p ≠ 0 then wrongPk p else if p.tmo ≤ x.height then 11 else if 50 ≤ s.sent.length ∨ 1000000000000 ≤ c.send then 5 else 0 by rw [← HLH.out]; rfl)
  obtain ⟨b, o, rfl, hcells⟩ := hk.spot (by omega)
  obtain ⟨hbN, vr, vn, d0, -⟩ := hcells n x hx
  have HD0 := hid d0
  have hwr : IntKind.i64.wrap ((f.known.length : Int) - 1) = (n : Int) := by rw [hn, IntKind.wrap_i64]; omega
  have hln : (n : Int) < (f.known.length : Int) := by omega
  have HWR := hid hwr
  clear hv hp hm hd ekv hk hcells hall hcl d0 hx hn hn1 hn2 hwr
  go_enter Tryz.func33, Tryz.ntmps33
  go_upto_region 1 with fail
  refine fbox3 ?_
  intro w0 F0 hs
  go_wp2_with (refine F0.load 2 rfl rfl rfl rfl structPacket ?_)
  refine (HWP.out _ F0.b).mono ?_
  rintro e w1 ⟨rfl, hb1⟩
  have F := F0.go hb1
  clear hb1 F0 hs HWP
  by_cases hz : wrongPk p = 0
  · have HS := hid (HE.out.trans (if_neg (by simp [hz])))
    rw [hz]
    clear hz HE
    go_upto_region 4 with fail
    refine outR (hid F.r1) (hid F.r2) hln (by have := F.b.size; omega) (hid ((F.b.cell (by show b < _; omega)).trans HD0.out)) HWR.out _ (hid ?_)
    intro σ w2 hb2 e14
    have F2 := F.go hb2
    rw [e14]
    clear e14 hb2 F
    have k6 := F2.r0.k10.2.2.2.2.2.2.1
    have k4 := F2.r1.k11.2.2.2.2.1
    by_cases h1 : p.tmo ≤ x.height
    · have HL := hid (HS.out.trans (if_pos h1))
      rw [show decide (p.tmo ≤ x.height) = true from decide_eq_true h1]
      clear h1
      go_wp2
      go_ret
      exact ⟨by rw [HL.out]; rfl, F2.b⟩
    have HS2 := hid (HS.out.trans (if_neg h1))
    rw [show decide (p.tmo ≤ x.height) = false from decide_eq_false h1]
    clear h1
    by_cases h2 : 50 ≤ s.sent.length
    · have HL := hid (HS2.out.trans (if_pos (.inl h2)))
      have e2 : decide ((50 : Int) ≤ (s.sent.length : Int)) = true := by simp; omega
      have e2n : decide (50 ≤ s.sent.length) = true := by simpa using h2
      clear h2
      go_wp2
      go_ret
      exact ⟨by rw [HL.out]; rfl, F2.b⟩
    have e2 : decide ((50 : Int) ≤ (s.sent.length : Int)) = false := by simp; omega
    have e2n : decide (50 ≤ s.sent.length) = false := by simpa using h2
    by_cases h3 : 1000000000000 ≤ c.send
    · have HL := hid (HS2.out.trans (if_pos (.inr h3)))
      have e3 : decide ((1000000000000 : Int) ≤ c.send) = true := by simpa using h3
      clear h2 h3
      go_wp2
      go_ret
      exact ⟨by rw [HL.out]; rfl, F2.b⟩
    · have HL := hid (HS2.out.trans (if_neg (by omega)))
      have e3 : decide ((1000000000000 : Int) ≤ c.send) = false := by simpa using h3
      clear h2 h3
      go_wp2
      go_ret
      exact ⟨by rw [HL.out]; rfl, F2.b⟩
  · have e0 : (wrongPk p != 0) = true := by simpa using hz
    have HS := hid (HE.out.trans (if_pos hz))
    clear hz
    go_wp2
    go_ret
    exact ⟨by rw [HS.out]; rfl, F.b⟩
end Go.Proofs.YtclhcjiblfokaaaGreatDoor
