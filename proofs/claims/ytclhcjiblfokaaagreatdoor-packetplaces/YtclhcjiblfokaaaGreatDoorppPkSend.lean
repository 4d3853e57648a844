/-
  A packet is sent: packet.Send.
-/
import Derived.Test.YtclhcjiblfokaaaGreatDoorppChMath
import Derived.Test.YtclhcjiblfokaaaGreatDoorppCoLive
import Derived.Test.YtclhcjiblfokaaaGreatDoorppStWrong
import Derived.Test.YtclhcjiblfokaaaGreatDoorppFrKit
import Derived.Test.YtclhcjiblfokaaaGreatDoorppPkKit
import Derived.Test.YtclhcjiblfokaaaGreatDoorppRegWant
import Derived.Test.YtclhcjiblfokaaaGreatDoorppStKey
import Derived.Test.YtclhcjiblfokaaaGreatDoorppHdMems
import Derived.Test.YtclhcjiblfokaaaGreatDoorppClAsk
import Derived.Test.YtclhcjiblfokaaaGreatDoorppClShown
import Derived.Test.YtclhcjiblfokaaaGreatDoorppBookMath
import Derived.Test.YtclhcjiblfokaaaGreatDoorppPairsAll
import Derived.Test.YtclhcjiblfokaaaGreatDoorppBookTree
import Derived.Test.YtclhcjiblfokaaaGreatDoorppSameB
import Derived.Test.YtclhcjiblfokaaaGreatDoorppRegions
import Derived.Test.YtclhcjiblfokaaaGreatDoorppStOne
import Derived.Test.YtclhcjiblfokaaaGreatDoorppPkDig
import Derived.Test.YtclhcjiblfokaaaGreatDoorppPkWith
import Derived.Test.YtclhcjiblfokaaaGreatDoorppRegW
import Derived.Test.YtclhcjiblfokaaaGreatDoorppStCopyM
import Derived.Test.YtclhcjiblfokaaaGreatDoorppChFol
import Derived.Test.YtclhcjiblfokaaaGreatDoorppCoOpened
import Derived.Laws.RangeString
namespace Go.Proofs.YtclhcjiblfokaaaGreatDoor
open Go.RowKit

set_option maxRecDepth 100000 in
set_option maxHeartbeats 4000000 in
theorem sendR10 {y0 y2 y3 y5 y6 y7 y8 y9 y10 y11 y12 y14 y15 y16 y17 y18 y19 y20 y21 y22 y23 y24 y25 y26 y27 y28 y29 y30 y31 y32 y33 y34 y35 y36 y37 y38 y39 y40 y41 y42 y43 y44 y45 y46 y47 y48 y49 y50 y61 y62 y63 y64 y65 y66 y67 y68 y69 y70 y71 z51 z52 z53 z54 z55 z56 z57 z58 z59 z60 : Value} {x0 x1 x2 x3 x4 x5 x7 x8 x9 p0 p1 p3 p4 : Value} {gs gp n4 c4 : Nat} {o4 : Option Addr} {ch q : Int} {dig : List (BitVec 8)} {w : World} (hgs : Hid (Row w gs 28 [x0, x1, x2, x3, x4, x5, .slice o4 n4 c4, x7, x8, x9])) (hgp : Hid (Row w gp 31 [p0, p1, .int .i64 q, p3, p4]))  (hdig : ∀ W, Below w.heap.size w W → Calls Tryz.prog 9 #[.agg #[p0, p1, .int .i64 q, p3, p4]] W fun e w' => ∃ od cd, e = .returned (.slice od 32 cd) ∧ OwnB w' W.heap.size (.slice od 32 cd) dig ∧ Below W.heap.size W w') (POST : Value → World → Prop) (hpost : ∀ v W, POST v W → Row W gs 28 [x0, x1, x2, x3, x4, x5, .slice o4 n4 c4, x7, x8, x9] ∧ ∃ o n c, v = .slice o n c)
    (hwith : ∀ W od cd, Below w.heap.size w W → OwnB W w.heap.size (.slice od 32 cd) dig → Calls Tryz.prog 36 #[.slice o4 n4 c4, .agg #[.int .i64 ch, .int .i64 q, .slice od 32 cd]] W fun e w' => ∃ v, e = .returned v ∧ POST v w') (Q : Exit → Act → World → Prop)
    (hQ : Hid (∀ (σ : Nat → Value) (W : World), POST (σ 8) W → Q .normal ⟨#[y0, .int .i64 ch, y2, y3, .pointer (some ⟨gs, 0, none⟩), y5, y6, y7, y8, y9, y10, y11, y12, .pointer (some ⟨gp, 0, none⟩), y14, y15, y16, y17, y18, y19, y20, y21, y22, y23, y24, y25, y26, y27, y28, y29, y30, y31, y32, y33, y34, y35, y36, y37, y38, y39, y40, y41, y42, y43, y44, y45, y46, y47, y48, y49, y50, σ 0, σ 1, σ 2, σ 3, σ 4, σ 5, σ 6, σ 7, σ 8, σ 9, y61, y62, y63, y64, y65, y66, y67, y68, y69, y70, y71], []⟩ (W.setCell ⟨gs, 6, none⟩ (σ 8)))) :
    Code.wp Tryz.prog (.region 10 ((Tryz.f11.body.bind (regOf 10)).getD #[]) true) Q ⟨#[y0, .int .i64 ch, y2, y3, .pointer (some ⟨gs, 0, none⟩), y5, y6, y7, y8, y9, y10, y11, y12, .pointer (some ⟨gp, 0, none⟩), y14, y15, y16, y17, y18, y19, y20, y21, y22, y23, y24, y25, y26, y27, y28, y29, y30, y31, y32, y33, y34, y35, y36, y37, y38, y39, y40, y41, y42, y43, y44, y45, y46, y47, y48, y49, y50, z51, z52, z53, z54, z55, z56, z57, z58, z59, z60, y61, y62, y63, y64, y65, y66, y67, y68, y69, y70, y71], []⟩ w := by
  conv => arg 2; arg 2; whnf
  conv => arg 4; dsimp only
  refine region_write 8 (by kernel_rfl) (fun σ => #[y0, .int .i64 ch, y2, y3, .pointer (some ⟨gs, 0, none⟩), y5, y6, y7, y8, y9, y10, y11, y12, .pointer (some ⟨gp, 0, none⟩), y14, y15, y16, y17, y18, y19, y20, y21, y22, y23, y24, y25, y26, y27, y28, y29, y30, y31, y32, y33, y34, y35, y36, y37, y38, y39, y40, y41, y42, y43, y44, y45, y46, y47, y48, y49, y50, σ 0, σ 1, σ 2, σ 3, σ 4, σ 5, σ 6, σ 7, σ 8, σ 9, y61, y62, y63, y64, y65, y66, y67, y68, y69, y70, y71]) (fun i => ([z51, z52, z53, z54, z55, z56, z57, z58, z59, z60, undef] : List Value).getD i undef) rfl (.pointer (some ⟨gs, 6, none⟩)) (fun i X W => match i with
    | 0 => X = .pointer (some ⟨gs, 6, none⟩)
    | 1 => X = .slice o4 n4 c4
    | 2 => X = .int .i64 ch
    | 3 => X = .pointer (some ⟨gp, 2, none⟩)
    | 4 => X = .int .i64 q
    | 5 => X = .agg #[p0, p1, .int .i64 q, p3, p4]
    | 6 => ∃ od cd, X = .slice od 32 cd ∧ OwnB W w.heap.size (.slice od 32 cd) dig
    | 7 => ∃ od cd, X = .agg #[.int .i64 ch, .int .i64 q, .slice od 32 cd] ∧ OwnB W w.heap.size (.slice od 32 cd) dig
    | _ => True) ?_ POST (fun v W => ∃ W0, POST v W0 ∧ W = W0.setCell ⟨gs, 6, none⟩ v) (by kernel_rfl) ?_ ?_ ?_ ?_ ?_
  · intro i X W W' HB H
    iterate 8 (obtain _ | i := i; first | exact H | exact (by obtain ⟨od, cd, h1, h2⟩ := H; exact ⟨od, cd, h1, h2.below HB⟩))
    exact H
  · refine ⟨?_, ?_, ?_, ?_, ?_, ?_, ?_, ?_, trivial⟩
    all_goals (intro σ W HJ hdep; simp [Region.binds] at hdep; have HJ := hid HJ; obtain ⟨gsk0, gsk1, gsk2, gsk3, gsk4, gsk5, gsk6, gsk7, gsk8, gsk9⟩ := (hgs.out.below HJ.out hgs.out.lt).k10; obtain ⟨gpk0, gpk1, gpk2, gpk3, gpk4⟩ := (hgp.out.below HJ.out hgp.out.lt).k5)
    · refine wpOp_plain rfl rfl ?_; go_simp; exact Left.mk0 _ (by first | rfl | simp [updF, *]) HJ.out rfl
    · refine wpOp_plain rfl rfl ?_; go_simp; exact Left.mk0 _ (by first | rfl | simp [updF, *]) HJ.out rfl
    · refine wpOp_plain rfl rfl ?_; go_simp; exact Left.mk0 _ (by first | rfl | simp [updF, *]) HJ.out rfl
    · refine wpOp_plain rfl rfl ?_; go_simp; exact Left.mk0 _ (by first | rfl | simp [updF, *]) HJ.out rfl
    · refine wpOp_plain rfl rfl ?_; go_simp; exact Left.mk0 _ (by first | rfl | simp [updF, *]) HJ.out rfl
    · refine wpOp_plain rfl rfl ?_; go_simp; exact Left.mk0 _ (by first | rfl | simp [updF, *]) HJ.out rfl
    · have HC := hid (hdig W HJ.out)
      refine wpOp_plain rfl rfl ?_
      go_simp
      refine HC.out.mono ?_
      rintro e w2 ⟨od, cd, rfl, ho, hb⟩
      exact Left.mk _ (by first | rfl | simp [updF, *]) hb HJ.out ⟨od, cd, rfl, ownsB_mono ho HJ.out.size⟩
    · obtain ⟨d3, d5, od, cd, d6, ho⟩ := hdep
      have HO := hid ho
      clear ho
      refine wpOp_plain rfl rfl ?_
      go_simp
      exact Left.mk0 (.agg #[.int .i64 ch, .int .i64 q, .slice od 32 cd]) (by first | rfl | simp [updF, *]) HJ.out ⟨od, cd, rfl, HO.out⟩
  · intro σ W HJ hg
    have eL : σ 1 = .slice o4 n4 c4 := hg 1 (by decide)
    obtain ⟨od, cd, eB, ho⟩ : ∃ od cd, σ 7 = .agg #[.int .i64 ch, .int .i64 q, .slice od 32 cd] ∧ OwnB W w.heap.size (.slice od 32 cd) dig := hg 7 (by decide)
    have HC := hid (hwith W od cd HJ ho)
    clear hg HJ ho
    refine wpOp_plain rfl rfl ?_
    go_simp
    refine HC.out.mono ?_
    rintro e w2 ⟨v, rfl, hp⟩
    exact ⟨v, by first | rfl | simp [updF, *], hp⟩
  · intro σ W
    refine wpOp_plain rfl rfl ?_
    go_simp
    exact ⟨by first | rfl | simp [updF, *], rfl⟩
  · intro σ W eu hp
    obtain ⟨hr, o, n, c, ev⟩ := hpost _ _ hp
    have kc := hr.cell 6
    have kz := hr.frozen 6
    simp at kc
    have HP := hid hp
    clear hp hr
    refine wpOp_plain rfl rfl ?_
    go_simp
    rw [ev] at HP
    exact ⟨undef, by first | rfl | simp [updF, *], W, HP.out, by first | rfl | rw [ev]⟩
  · rintro σ W ⟨W0, hp, rfl⟩ _
    exact hQ.out σ W0 hp
set_option maxRecDepth 100000 in
set_option maxHeartbeats 4000000 in
theorem sendR12 {y0 y1 y2 y3 y5 y6 y7 y11 y12 y14 y15 y16 y17 y18 y19 y20 y21 y22 y23 y24 y25 y26 y27 y28 y29 y30 y31 y32 y33 y34 y35 y36 y37 y38 y39 y40 y41 y42 y43 y44 y45 y46 y47 y48 y49 y50 y51 y52 y53 y54 y55 y56 y57 y58 y59 y60 y61 y62 y63 y64 y65 y66 y67 y68 y69 z10 z70 z71 : Value} {x0 x1 x2 x3 x4 x5 x6 x7 x8 x9 p0 p1 p2 p3 p4 : Value} {gs gp ga gb : Nat} {o1 o2 : List Value} {w : World} (hs : Hid (Row w gs 28 [x0, x1, x2, x3, x4, x5, x6, x7, x8, x9])) (hp : Hid (Row w gp 31 [p0, p1, p2, p3, p4])) (ha : Hid (Row w ga 28 o1)) (hl1 : o1.length = 10) (hb : Hid (Row w gb 31 o2)) (hl2 : o2.length = 5)
    (hn1 : (#[x0, x1, x2, x3, x4, x5, x6, x7, x8, x9] : Array Value).all (·.oneCell') = true) (hn2 : (#[p0, p1, p2, p3, p4] : Array Value).all (·.oneCell') = true) (q1 : gs ≠ ga ∧ gs ≠ gb ∧ gp ≠ ga ∧ gp ≠ gb ∧ ga ≠ gb) (Q : Exit → Act → World → Prop)
    (hQ : Hid (∀ (σ : Nat → Value) (W : World), Two ga gb w W → Row W ga 28 [x0, x1, x2, x3, x4, x5, x6, x7, x8, x9] → Row W gb 31 [p0, p1, p2, p3, p4] → σ 4 = .int .i64 0 → Q .normal ⟨#[y0, y1, y2, y3, .pointer (some ⟨gs, 0, none⟩), y5, y6, y7, .pointer (some ⟨ga, 0, none⟩), .pointer (some ⟨gb, 0, none⟩), σ 4, y11, y12, .pointer (some ⟨gp, 0, none⟩), y14, y15, y16, y17, y18, y19, y20, y21, y22, y23, y24, y25, y26, y27, y28, y29, y30, y31, y32, y33, y34, y35, y36, y37, y38, y39, y40, y41, y42, y43, y44, y45, y46, y47, y48, y49, y50, y51, y52, y53, y54, y55, y56, y57, y58, y59, y60, y61, y62, y63, y64, y65, y66, y67, y68, y69, σ 0, σ 1], []⟩ W)) :
    Code.wp Tryz.prog (.region 12 ((Tryz.f11.body.bind (regOf 12)).getD #[]) true) Q ⟨#[y0, y1, y2, y3, .pointer (some ⟨gs, 0, none⟩), y5, y6, y7, .pointer (some ⟨ga, 0, none⟩), .pointer (some ⟨gb, 0, none⟩), z10, y11, y12, .pointer (some ⟨gp, 0, none⟩), y14, y15, y16, y17, y18, y19, y20, y21, y22, y23, y24, y25, y26, y27, y28, y29, y30, y31, y32, y33, y34, y35, y36, y37, y38, y39, y40, y41, y42, y43, y44, y45, y46, y47, y48, y49, y50, y51, y52, y53, y54, y55, y56, y57, y58, y59, y60, y61, y62, y63, y64, y65, y66, y67, y68, y69, z70, z71], []⟩ w := by
  conv => arg 2; arg 2; whnf
  conv => arg 4; dsimp only
  refine region_facts (by kernel_rfl) (fun σ => #[y0, y1, y2, y3, .pointer (some ⟨gs, 0, none⟩), y5, y6, y7, .pointer (some ⟨ga, 0, none⟩), .pointer (some ⟨gb, 0, none⟩), σ 4, y11, y12, .pointer (some ⟨gp, 0, none⟩), y14, y15, y16, y17, y18, y19, y20, y21, y22, y23, y24, y25, y26, y27, y28, y29, y30, y31, y32, y33, y34, y35, y36, y37, y38, y39, y40, y41, y42, y43, y44, y45, y46, y47, y48, y49, y50, y51, y52, y53, y54, y55, y56, y57, y58, y59, y60, y61, y62, y63, y64, y65, y66, y67, y68, y69, σ 0, σ 1]) (fun i => ([z70, z71, undef, undef, z10] : List Value).getD i undef) rfl (fun i X W => match i with
    | 0 => X = .agg #[x0, x1, x2, x3, x4, x5, x6, x7, x8, x9]
    | 1 => X = .agg #[p0, p1, p2, p3, p4]
    | 2 => Row W ga 28 [x0, x1, x2, x3, x4, x5, x6, x7, x8, x9]
    | 3 => Row W gb 31 [p0, p1, p2, p3, p4]
    | 4 => X = .int .i64 0
    | _ => True) (fun A B => (Row A ga 28 [x0, x1, x2, x3, x4, x5, x6, x7, x8, x9] → Row B ga 28 [x0, x1, x2, x3, x4, x5, x6, x7, x8, x9]) ∧ (Row A gb 31 [p0, p1, p2, p3, p4] → Row B gb 31 [p0, p1, p2, p3, p4])) (fun W => Two ga gb w W ∧ (∃ o : List Value, o.length = 10 ∧ Row W ga 28 o) ∧ ∃ o : List Value, o.length = 5 ∧ Row W gb 31 o) ⟨Two.drew _ _ _, ⟨o1, hl1, ha.out⟩, o2, hl2, hb.out⟩ ?_ (by kernel_rfl) ?_ ?_
  · intro i X A B hR H
    match i, H with
    | 0, H => exact H
    | 1, H => exact H
    | 2, H => exact hR.1 H
    | 3, H => exact hR.2 H
    | 4, H => exact H
    | _ + 5, _ => exact trivial
  · refine ⟨?_, ?_, ?_, ?_, ?_, trivial⟩
    all_goals (intro σ W HJ hdep; simp [Region.binds] at hdep; have HJ := hid HJ)
    · obtain ⟨k0, k1, k2, k3, k4, k5, k6, k7, k8, k9⟩ := (show Row W gs 28 [x0, x1, x2, x3, x4, x5, x6, x7, x8, x9] from (HJ.out.1.same _ q1.1 q1.2.1).trans hs.out).k10
      refine wpOp_plain rfl rfl ?_; go_simp; exact ⟨_, (by first | rfl | simp [updF, *]), ⟨id, id⟩, HJ.out, rfl⟩
    · obtain ⟨m0, m1, m2, m3, m4⟩ := (show Row W gp 31 [p0, p1, p2, p3, p4] from (HJ.out.1.same _ q1.2.2.1 q1.2.2.2.1).trans hp.out).k5
      refine wpOp_plain rfl rfl ?_; go_simp; exact ⟨_, (by first | rfl | simp [updF, *]), ⟨id, id⟩, HJ.out, rfl⟩
    · obtain ⟨o, hl, hr⟩ := HJ.out.2.1
      have hd : σ 0 = .agg #[x0, x1, x2, x3, x4, x5, x6, x7, x8, x9] := by first | exact hdep | exact hdep.1
      refine wpOp_plain rfl rfl ?_
      refine wp_store_row _ (.tmp 8) (.tmp 70) rfl ga #[x0, x1, x2, x3, x4, x5, x6, x7, x8, x9] rfl hd 28 o.toArray hr (by kernel_rfl) (by simpa using hl) hn1 ?_
      refine ⟨undef, rfl, ⟨fun _ => Row.setRow hr _, fun h => (setRow_other _ _ _ _ q1.2.2.2.2.symm).trans h⟩, ⟨HJ.out.1.row _ (.inl rfl), ⟨_, by rfl, Row.setRow hr [x0, x1, x2, x3, x4, x5, x6, x7, x8, x9]⟩, ?_⟩, Row.setRow hr _⟩
      obtain ⟨o', hl', hr'⟩ := HJ.out.2.2
      exact ⟨o', hl', (setRow_other _ _ _ _ q1.2.2.2.2.symm).trans hr'⟩
    · obtain ⟨o, hl, hr⟩ := HJ.out.2.2
      have hd : σ 1 = .agg #[p0, p1, p2, p3, p4] := by first | exact hdep | exact hdep.1 | exact hdep.2.1
      refine wpOp_plain rfl rfl ?_
      refine wp_store_row _ (.tmp 9) (.tmp 71) rfl gb #[p0, p1, p2, p3, p4] rfl hd 31 o.toArray hr (by kernel_rfl) (by simpa using hl) hn2 ?_
      refine ⟨undef, rfl, ⟨fun h => (setRow_other _ _ _ _ q1.2.2.2.2).trans h, fun _ => Row.setRow hr _⟩, ⟨HJ.out.1.row _ (.inr rfl), ?_, ⟨_, by rfl, Row.setRow hr [p0, p1, p2, p3, p4]⟩⟩, Row.setRow hr _⟩
      obtain ⟨o', hl', hr'⟩ := HJ.out.2.1
      exact ⟨o', hl', (setRow_other _ _ _ _ q1.2.2.2.2).trans hr'⟩
    · refine wpOp_plain rfl rfl ?_; go_simp; exact ⟨_, (by first | rfl | simp [updF, *]), ⟨id, id⟩, HJ.out, rfl⟩
  · intro σ W HJ hg
    exact hQ.out σ W HJ.1 (hg 2 (by decide)) (hg 3 (by decide)) (hg 4 (by decide))
end Go.Proofs.YtclhcjiblfokaaaGreatDoor
namespace Go.Proofs.YtclhcjiblfokaaaGreatDoor
open Go.RowKit

set_option maxRecDepth 100000 in
set_option maxHeartbeats 4000000 in
theorem useR {y0 y3 y5 y6 y7 y8 y9 y10 y11 y12 y13 y14 y15 y16 y17 y18 y19 y20 y21 y22 y23 y24 y25 y26 y27 y28 y29 y30 z4 z31 z32 z33 z34 z35 z36 z37 z38 : Value} {x0 x1 x2 x3 x5 x6 x7 x8 x9 : Value} {gs b f k n c : Nat} {cl z : Int} {w : World} (hgs : Hid (Row w gs 28 [x0, x1, x2, x3, .slice (some ⟨b, f, none⟩) n c, x5, x6, x7, x8, x9])) (hlb : (k : Int) < (n : Int)) (hbb : b < w.heap.size) (hcb : Hid (w.cell? ⟨b, f + k * 4 + 1, none⟩ = some (.int .i64 cl))) (hc : ∀ W, Below w.heap.size w W → Calls Tryz.prog 161 #[.agg #[x0, x1, x2, x3, .slice (some ⟨b, f, none⟩) n c, x5, x6, x7, x8, x9], .int .i64 cl] W fun e w' => e = .returned (.int .i64 z) ∧ Below W.heap.size W w') (Q : Exit → Act → World → Prop)
    (hQ : Hid (∀ (σ : Nat → Value) (w' : World), Below w.heap.size w w' → σ 8 = .int .i64 z → Q .normal ⟨#[y0, .int .i64 (k : Int), .pointer (some ⟨gs, 0, none⟩), y3, σ 8, y5, y6, y7, y8, y9, y10, y11, y12, y13, y14, y15, y16, y17, y18, y19, y20, y21, y22, y23, y24, y25, y26, y27, y28, y29, y30, σ 0, σ 1, σ 2, σ 3, σ 4, σ 5, σ 6, σ 7], []⟩ w')) :
    Code.wp Tryz.prog (.region 7 ((Tryz.f127.body.bind (regOf 7)).getD #[]) true) Q ⟨#[y0, .int .i64 (k : Int), .pointer (some ⟨gs, 0, none⟩), y3, z4, y5, y6, y7, y8, y9, y10, y11, y12, y13, y14, y15, y16, y17, y18, y19, y20, y21, y22, y23, y24, y25, y26, y27, y28, y29, y30, z31, z32, z33, z34, z35, z36, z37, z38], []⟩ w := by
  conv => arg 2; arg 2; whnf
  conv => arg 4; dsimp only
  refine region_grows (by kernel_rfl) (fun σ => #[y0, .int .i64 (k : Int), .pointer (some ⟨gs, 0, none⟩), y3, σ 8, y5, y6, y7, y8, y9, y10, y11, y12, y13, y14, y15, y16, y17, y18, y19, y20, y21, y22, y23, y24, y25, y26, y27, y28, y29, y30, σ 0, σ 1, σ 2, σ 3, σ 4, σ 5, σ 6, σ 7]) (fun i => ([z31, z32, z33, z34, z35, z36, z37, z38, z4] : List Value).getD i undef) rfl (fun i X W => match i with
    | 0 => X = .agg #[x0, x1, x2, x3, .slice (some ⟨b, f, none⟩) n c, x5, x6, x7, x8, x9]
    | 1 => X = .pointer (some ⟨gs, 4, none⟩)
    | 2 => X = .slice (some ⟨b, f, none⟩) n c
    | 3 => X = .int .i64 (k : Int)
    | 4 => X = .pointer (some ⟨b, f + k * 4, none⟩)
    | 5 => X = .pointer (some ⟨b, f + k * 4 + 1, none⟩)
    | 6 => X = .int .i64 cl
    | 7 => X = .int .i64 z
    | 8 => X = .int .i64 z
    | _ => True) ?_ (by kernel_rfl) ?_ ?_
  · intro i X W W' HB H
    iterate 9 (obtain _ | i := i; first | exact H)
    exact H
  · refine ⟨?_, ?_, ?_, ?_, ?_, ?_, ?_, ?_, ?_, trivial⟩
    all_goals (intro σ W HJ hdep; simp [Region.binds] at hdep; have HJ := hid HJ; obtain ⟨gsk0, gsk1, gsk2, gsk3, gsk4, gsk5, gsk6, gsk7, gsk8, gsk9⟩ := (hgs.out.below HJ.out hgs.out.lt).k10; have bk0 := hcb.out; replace bk0 := (HJ.out.cell (by exact hbb)).trans bk0)
    · refine wpOp_plain rfl rfl ?_; go_simp; exact Left.mk0 _ (by first | rfl | simp [updF, *]) HJ.out rfl
    · refine wpOp_plain rfl rfl ?_; go_simp; exact Left.mk0 _ (by first | rfl | simp [updF, *]) HJ.out rfl
    · refine wpOp_plain rfl rfl ?_; go_simp; exact Left.mk0 _ (by first | rfl | simp [updF, *]) HJ.out rfl
    · refine wpOp_plain rfl rfl ?_; go_simp; exact Left.mk0 _ (by first | rfl | simp [updF, *]) HJ.out rfl
    · refine wpOp_plain rfl rfl ?_; go_simp; exact Left.mk0 _ (by first | rfl | simp [updF, *]) HJ.out rfl
    · refine wpOp_plain rfl rfl ?_; go_simp; exact Left.mk0 _ (by first | rfl | simp [updF, *]) HJ.out rfl
    · refine wpOp_plain rfl rfl ?_; go_simp; exact Left.mk0 _ (by first | rfl | simp [updF, *]) HJ.out rfl
    · have HC := hid (hc W HJ.out); refine wpOp_plain rfl rfl ?_; go_simp; refine HC.out.mono ?_; rintro e w2 ⟨rfl, hb⟩; exact Left.mk _ (by first | rfl | simp [updF, *]) hb HJ.out rfl
    · refine wpOp_plain rfl rfl ?_; go_simp; exact Left.mk0 _ (by first | rfl | simp [updF, *]) HJ.out rfl
  · intro σ w' hb hg
    exact hQ.out σ w' hb (hg 8 (by decide))
set_option maxRecDepth 100000 in
set_option maxHeartbeats 4000000 in
theorem use_any (s : St) (v : Value) (N : Nat) (w : World) (i : Int) (hv : StV w N v s) (hN : N ≤ w.heap.size) (h0 : wrongS s = 0) :
    Calls Tryz.prog 127 #[v, .int .i64 i] w fun e w' => e = .returned (.int .i64 (overN s i)) ∧ Below w.heap.size w w' := by
  have HE := hid (show overN s i = if i < 0 ∨ (s.conns.length : Int) ≤ i then 6 else if (cnAt s i).state ≠ 3 then 12 else if (cnAt s i).oconn < 0 then 8 else liveN s (cnAt s i).client from rfl)
  have HLV := hid (fun (c : Int) wx (hx : Below w.heap.size w wx) => liveC s v N wx c (hv.below (hx.mono hN)) (Nat.le_trans hN hx.size) h0)
  obtain ⟨o1, c1, o2, c2, o3, c3, o4, c4, o5, c5, o6, c6, o7, c7, rfl, hm⟩ := hv.open
  have HM := hid hm
  clear hv hm h0
  go_enter Tryz.func127, Tryz.ntmps127
  go_upto_region 1 with fail
  refine fbox1 ?_
  intro w0 F hs
  have k4 := F.r0.k10.2.2.2.2.1
  by_cases h0 : i < 0
  · have e0 : decide (i < 0) = true := by simpa using h0
    go_wp2
    go_ret
    exact ⟨by rw [HE.out, if_pos (.inl h0)]; rfl, F.b⟩
  have e0 : decide (i < 0) = false := by simpa using h0
  by_cases h1 : (s.conns.length : Int) ≤ i
  · have e1 : decide ((s.conns.length : Int) ≤ i) = true := by simpa using h1
    go_wp2
    go_ret
    exact ⟨by rw [HE.out, if_pos (.inr h1)]; rfl, F.b⟩
  have e1 : decide ((s.conns.length : Int) ≤ i) = false := by simpa using h1
  have HE2 := hid (HE.out.trans (if_neg (by omega)))
  obtain ⟨k, rfl⟩ : ∃ k : Nat, i = (k : Int) := ⟨i.toNat, by omega⟩
  have hlt : (k : Int) < (s.conns.length : Int) := by omega
  obtain ⟨x, hx⟩ : ∃ x, s.conns[k]? = some x := ⟨_, List.getElem?_eq_getElem (by omega)⟩
  rw [cnAt_some hx] at HE2
  obtain ⟨b, f, rfl, hb, x0, x1, x2, x3⟩ := (HM.out.below (F.b.mono hN)).conns.conn rfl hx
  have HX1 := hid x1
  clear x1 x2 hx HE
  have hbl : b < w0.heap.size := by have := F.b.size; omega
  by_cases h2 : x.state = 3
  · have e2 : (x.state != 3) = false := by simpa using h2
    by_cases h3 : x.oconn < 0
    · have e3 : decide (x.oconn < 0) = true := by simpa using h3
      have HL := hid (HE2.out.trans ((if_neg (by simp [h2])).trans (if_pos h3)))
      clear h2 h3
      go_wp2
      go_ret
      exact ⟨by rw [HL.out]; rfl, F.b⟩
    have e3 : decide (x.oconn < 0) = false := by simpa using h3
    have HL := hid (HE2.out.trans ((if_neg (by simp [h2])).trans (if_neg h3)))
    clear h2 h3
    go_upto_region 7 with fail
    refine useR (hid F.r0) hlt hbl HX1 (z := liveN s x.client) (fun W hW => HLV.out x.client W (F.go hW).b) _ (hid ?_)
    intro σ w2 hb2 ea
    have F2 := F.go hb2
    rw [ea]
    clear ea hb2
    go_wp2
    go_ret
    exact ⟨by rw [HL.out]; rfl, F2.b⟩
  · have e2 : (x.state != 3) = true := by simpa using h2
    have HL := hid (HE2.out.trans (if_pos h2))
    clear h2
    go_wp2
    go_ret
    exact ⟨by rw [HL.out]; rfl, F.b⟩
end Go.Proofs.YtclhcjiblfokaaaGreatDoor
namespace Go.Proofs.YtclhcjiblfokaaaGreatDoor
open Go.RowKit

set_option maxRecDepth 100000 in
set_option maxHeartbeats 4000000 in
theorem index_any (ls : List Int) (x : Int) (g n : Nat) (w : World) (hr : Row w g 3 (ls.map (Value.int .i64))) (hn : n = ls.length) (hl : n ≤ 10) :
    Calls Tryz.prog 160 #[.slice (some ⟨g, 0, none⟩) n n, .int .i64 x] w fun e w' => w' = w ∧ ∃ k : Int, e = .returned (.int .i64 k) ∧ (decide (0 ≤ k) = decide (x ∈ ls)) := by
  have HR := hid hr
  have HN := hid hn
  clear hr hn
  go_enter Tryz.func160, Tryz.ntmps160
  go_wp2_with fail
  go_loopw [8] (fun i wr => wr = w ∧ ∃ k : Nat, k ≤ n ∧ i = .int .i64 (k : Int) ∧ Hid (∀ (j : Nat) y, j < k → ls[j]? = some y → y ≠ x)) (fun i _ => n - (intOf i).toNat)
  case atStart => exact ⟨rfl, 0, by omega, rfl, hid (fun j y hj => absurd hj (Nat.not_lt_zero _))⟩
  case round =>
    obtain ⟨hwr, k, hk, rfl, HI⟩ := hrel
    obtain rfl := hwr
    by_cases hlt : k < n
    · obtain ⟨y, hy⟩ : ∃ y, ls[k]? = some y := ⟨ls[k]'(by rw [← HN.out]; exact hlt), List.getElem?_eq_getElem _⟩
      have hlt' : (k : Int) < (n : Int) := by omega
      have c0 : wr.cell? ⟨g, k, none⟩ = some (.int .i64 y) := by rw [HR.out.cell, List.getElem?_map, hy]; rfl
      have HY := hid hy
      clear hy
      by_cases hxy : x = y
      · have e1 : (x == y) = true := by simpa using hxy
        have HX := hid hxy
        clear hxy
        go_wp2
        go_ret
        exact ⟨rfl, _, rfl, by
          have hm : x ∈ ls := by rw [HX.out]; exact List.mem_of_getElem? HY.out
          simp [hm]⟩
      · have e1 : (x == y) = false := by simpa using hxy
        have HX := hid hxy
        clear hxy
        go_wp2
        go_roundw
        case rel => exact ⟨by trivial, k + 1, by omega, by go_num, hid (fun j z hj hz => by
          by_cases e : j = k
          · subst e
            rw [HY.out] at hz
            cases hz
            exact fun h => HX.out h.symm
          · exact HI.out j z (by omega) hz)⟩
        case measure => simp [intOf]; omega
    · have hge : decide ((k : Int) < (n : Int)) = false := by simp; omega
      go_wp2
      go_ret
      exact ⟨rfl, _, rfl, by
        have hm : ¬ x ∈ ls := fun h => by
          obtain ⟨j, hj⟩ := List.getElem?_of_mem h
          have := (List.getElem?_eq_some_iff.1 hj).1
          exact HI.out j x (by have := HN.out; omega) hj rfl
        simp [hm]⟩
set_option maxRecDepth 100000 in
set_option maxHeartbeats 4000000 in
theorem containsI_any (ls : List Int) (x : Int) (g n : Nat) (w : World) (hr : Row w g 3 (ls.map (Value.int .i64))) (hn : n = ls.length) (hl : n ≤ 10) :
    Calls Tryz.prog 126 #[.slice (some ⟨g, 0, none⟩) n n, .int .i64 x] w fun e w' => e = .returned (.bool (decide (x ∈ ls))) ∧ w' = w := by
  have HC := hid (index_any ls x g n w hr hn hl)
  clear hr hn hl
  go_enter Tryz.func126, Tryz.ntmps126
  go_wp2_with fail
  refine HC.out.mono ?_
  rintro e w1 ⟨hw1, k, rfl, hk⟩
  obtain rfl := hw1.symm
  have HK := hid hk
  clear hk
  go_wp2
  go_ret
  exact ⟨by rw [← HK.out]; rfl, rfl⟩
set_option maxRecDepth 100000 in
set_option maxHeartbeats 4000000 in
theorem dendR {y0 y2 y4 y5 y7 y8 y9 y10 y11 y12 y13 y14 y15 y16 y17 y18 y19 y20 y21 y22 y23 y24 y25 y26 y27 y28 y29 y30 y31 y32 z6 z33 z34 z35 z36 z37 z38 z39 z40 : Value} {x0 x1 x2 x3 x4 x6 x7 x8 x9 : Value} {gs b f k n c : Nat} {cn z : Int} {w : World} (hgs : Hid (Row w gs 28 [x0, x1, x2, x3, x4, .slice (some ⟨b, f, none⟩) n c, x6, x7, x8, x9])) (hlb : (k : Int) < (n : Int)) (hbb : b < w.heap.size) (hcb : Hid (w.cell? ⟨b, f + k * 7 + 2, none⟩ = some (.int .i64 cn))) (hc : ∀ W, Below w.heap.size w W → Calls Tryz.prog 127 #[.agg #[x0, x1, x2, x3, x4, .slice (some ⟨b, f, none⟩) n c, x6, x7, x8, x9], .int .i64 cn] W fun e w' => e = .returned (.int .i64 z) ∧ Below W.heap.size W w') (Q : Exit → Act → World → Prop)
    (hQ : Hid (∀ (σ : Nat → Value) (w' : World), Below w.heap.size w w' → σ 8 = .int .i64 z → Q .normal ⟨#[y0, .int .i64 (k : Int), y2, .pointer (some ⟨gs, 0, none⟩), y4, y5, σ 8, y7, y8, y9, y10, y11, y12, y13, y14, y15, y16, y17, y18, y19, y20, y21, y22, y23, y24, y25, y26, y27, y28, y29, y30, y31, y32, σ 0, σ 1, σ 2, σ 3, σ 4, σ 5, σ 6, σ 7], []⟩ w')) :
    Code.wp Tryz.prog (.region 8 ((Tryz.f83.body.bind (regOf 8)).getD #[]) true) Q ⟨#[y0, .int .i64 (k : Int), y2, .pointer (some ⟨gs, 0, none⟩), y4, y5, z6, y7, y8, y9, y10, y11, y12, y13, y14, y15, y16, y17, y18, y19, y20, y21, y22, y23, y24, y25, y26, y27, y28, y29, y30, y31, y32, z33, z34, z35, z36, z37, z38, z39, z40], []⟩ w := by
  conv => arg 2; arg 2; whnf
  conv => arg 4; dsimp only
  refine region_grows (by kernel_rfl) (fun σ => #[y0, .int .i64 (k : Int), y2, .pointer (some ⟨gs, 0, none⟩), y4, y5, σ 8, y7, y8, y9, y10, y11, y12, y13, y14, y15, y16, y17, y18, y19, y20, y21, y22, y23, y24, y25, y26, y27, y28, y29, y30, y31, y32, σ 0, σ 1, σ 2, σ 3, σ 4, σ 5, σ 6, σ 7]) (fun i => ([z33, z34, z35, z36, z37, z38, z39, z40, z6] : List Value).getD i undef) rfl (fun i X W => match i with
    | 0 => X = .agg #[x0, x1, x2, x3, x4, .slice (some ⟨b, f, none⟩) n c, x6, x7, x8, x9]
    | 1 => X = .pointer (some ⟨gs, 5, none⟩)
    | 2 => X = .slice (some ⟨b, f, none⟩) n c
    | 3 => X = .int .i64 (k : Int)
    | 4 => X = .pointer (some ⟨b, f + k * 7, none⟩)
    | 5 => X = .pointer (some ⟨b, f + k * 7 + 2, none⟩)
    | 6 => X = .int .i64 cn
    | 7 => X = .int .i64 z
    | 8 => X = .int .i64 z
    | _ => True) ?_ (by kernel_rfl) ?_ ?_
  · intro i X W W' HB H
    iterate 9 (obtain _ | i := i; first | exact H)
    exact H
  · refine ⟨?_, ?_, ?_, ?_, ?_, ?_, ?_, ?_, ?_, trivial⟩
    all_goals (intro σ W HJ hdep; simp [Region.binds] at hdep; have HJ := hid HJ; obtain ⟨gsk0, gsk1, gsk2, gsk3, gsk4, gsk5, gsk6, gsk7, gsk8, gsk9⟩ := (hgs.out.below HJ.out hgs.out.lt).k10; have bk0 := hcb.out; replace bk0 := (HJ.out.cell (by exact hbb)).trans bk0)
    · refine wpOp_plain rfl rfl ?_; go_simp; exact Left.mk0 _ (by first | rfl | simp [updF, *]) HJ.out rfl
    · refine wpOp_plain rfl rfl ?_; go_simp; exact Left.mk0 _ (by first | rfl | simp [updF, *]) HJ.out rfl
    · refine wpOp_plain rfl rfl ?_; go_simp; exact Left.mk0 _ (by first | rfl | simp [updF, *]) HJ.out rfl
    · refine wpOp_plain rfl rfl ?_; go_simp; exact Left.mk0 _ (by first | rfl | simp [updF, *]) HJ.out rfl
    · refine wpOp_plain rfl rfl ?_; go_simp; exact Left.mk0 _ (by first | rfl | simp [updF, *]) HJ.out rfl
    · refine wpOp_plain rfl rfl ?_; go_simp; exact Left.mk0 _ (by first | rfl | simp [updF, *]) HJ.out rfl
    · refine wpOp_plain rfl rfl ?_; go_simp; exact Left.mk0 _ (by first | rfl | simp [updF, *]) HJ.out rfl
    · have HC := hid (hc W HJ.out); refine wpOp_plain rfl rfl ?_; go_simp; refine HC.out.mono ?_; rintro e w2 ⟨rfl, hb⟩; exact Left.mk _ (by first | rfl | simp [updF, *]) hb HJ.out rfl
    · refine wpOp_plain rfl rfl ?_; go_simp; exact Left.mk0 _ (by first | rfl | simp [updF, *]) HJ.out rfl
  · intro σ w' hb hg
    exact hQ.out σ w' hb (hg 8 (by decide))
set_option maxRecDepth 100000 in
set_option maxHeartbeats 4000000 in
theorem dend_any (s : St) (v : Value) (N : Nat) (w : World) (i : Int) (ls : List Int) (gl nl : Nat) (hv : StV w N v s) (hN : N ≤ w.heap.size) (hfit : s.fits) (hl : Row w gl 3 (ls.map (Value.int .i64))) (hnl : nl = ls.length) (h10 : nl ≤ 10) :
    Calls Tryz.prog 83 #[v, .int .i64 i, .slice (some ⟨gl, 0, none⟩) nl nl] w fun e w' => e = .returned (.int .i64 (cendL s i ls)) ∧ Below w.heap.size w w' := by
  have HE := hid (show cendL s i ls = if wrongS s ≠ 0 then wrongS s else if i < 0 ∨ (s.chans.length : Int) ≤ i then 6 else if (chAt s i).state ∈ ls then overN s (chAt s i).conn else 12 from rfl)
  have HW1 := hid (fun wx (hx : Below w.heap.size w wx) => stWrongC s v N wx (hv.below (hx.mono hN)) (Nat.le_trans hN hx.size) hfit)
  have HUS := hid (fun (h0 : wrongS s = 0) (c : Int) wx (hx : Below w.heap.size w wx) => use_any s v N wx c (hv.below (hx.mono hN)) (Nat.le_trans hN hx.size) h0)
  have HCO := hid (fun (x : Int) wx (hx : Below w.heap.size w wx) => containsI_any ls x gl nl wx (hl.below hx hl.lt) hnl h10)
  obtain ⟨o1, c1, o2, c2, o3, c3, o4, c4, o5, c5, o6, c6, o7, c7, rfl, hm⟩ := hv.open
  have HM := hid hm
  clear hv hm hfit hl hnl h10
  go_enter Tryz.func83, Tryz.ntmps83
  go_upto_region 1 with fail
  refine fbox1 ?_
  intro w0 F0 hs
  go_wp2_with (refine F0.load 0 rfl rfl rfl rfl structState ?_)
  refine (HW1.out _ F0.b).mono ?_
  rintro e w1 ⟨rfl, hb1⟩
  have F := F0.go hb1
  clear hb1 F0 hs
  by_cases hz : wrongS s = 0
  · have H0 := hid hz
    have HS := hid (HE.out.trans (if_neg (by simp [hz])))
    rw [hz]
    clear hz
    obtain ⟨k0, k1, k2, k3, k4, k5, k6, k7, k8, k9⟩ := F.r0.k10
    by_cases h0 : i < 0
    · have e0 : decide (i < 0) = true := by simpa using h0
      go_wp2
      go_ret
      exact ⟨by rw [HS.out, if_pos (.inl h0)]; rfl, F.b⟩
    have e0 : decide (i < 0) = false := by simpa using h0
    by_cases h1 : (s.chans.length : Int) ≤ i
    · have e1 : decide ((s.chans.length : Int) ≤ i) = true := by simpa using h1
      go_wp2
      go_ret
      exact ⟨by rw [HS.out, if_pos (.inr h1)]; rfl, F.b⟩
    have e1 : decide ((s.chans.length : Int) ≤ i) = false := by simpa using h1
    have HE2 := hid (HS.out.trans (if_neg (by omega)))
    obtain ⟨k, rfl⟩ : ∃ k : Nat, i = (k : Int) := ⟨i.toNat, by omega⟩
    have hlt : (k : Int) < (s.chans.length : Int) := by omega
    obtain ⟨x, hx⟩ : ∃ x, s.chans[k]? = some x := ⟨_, List.getElem?_eq_getElem (by omega)⟩
    rw [chAt_some hx] at HE2
    obtain ⟨b, f, rfl, hb, x0, -, x2, -⟩ := (HM.out.below (F.b.mono hN)).chans.chan rfl hx
    have HX2 := hid x2
    clear x2 hx HE HS
    have hbl : b < w1.heap.size := by have := F.b.size; omega
    go_wp2_with fail
    refine (HCO.out x.state w1 F.b).mono ?_
    rintro e w2 ⟨rfl, hw2⟩
    obtain rfl := hw2.symm
    by_cases h2 : x.state ∈ ls
    · have HL := hid (HE2.out.trans (if_pos h2))
      rw [show decide (x.state ∈ ls) = true from decide_eq_true h2]
      clear h2
      go_upto_region 8 with fail
      refine dendR (hid F.r0) hlt hbl HX2 (z := overN s x.conn) (fun W hW => HUS.out H0.out x.conn W (F.go hW).b) _ (hid ?_)
      intro σ w3 hb3 ea
      have F2 := F.go hb3
      rw [ea]
      clear ea hb3
      go_wp2
      go_ret
      exact ⟨by rw [HL.out]; rfl, F2.b⟩
    · have HL := hid (HE2.out.trans (if_neg h2))
      rw [show decide (x.state ∈ ls) = false from decide_eq_false h2]
      clear h2
      go_wp2
      go_ret
      exact ⟨by rw [HL.out]; rfl, F.b⟩
  · have e0 : (wrongS s != 0) = true := by simpa using hz
    have HS := hid (HE.out.trans (if_pos hz))
    clear hz
    generalize wrongS s = z at *
    go_wp2
    go_ret
    exact ⟨by rw [HS.out]; rfl, F.b⟩
end Go.Proofs.YtclhcjiblfokaaaGreatDoor
namespace Go.Proofs.YtclhcjiblfokaaaGreatDoor
open Go.RowKit

theorem Many.client {w : World} {N k n cap : Nat} {oa : Option Addr} {l : List Cl} {x : Cl} (h : Many ClR 4 w N (.slice oa n cap) l) (hn : n = l.length) (hx : l[k]? = some x) : ∃ b f ka ma, oa = some ⟨b, f, none⟩ ∧ b < N ∧ (w.cell? ⟨b, f + k * 4, none⟩ = some (.string x.chain) ∧ w.cell? ⟨b, f + k * 4 + 1, none⟩ = some (.int .i64 x.trust) ∧ w.cell? ⟨b, f + k * 4 + 2, none⟩ = some (.bool x.frozen) ∧ w.cell? ⟨b, f + k * 4 + 3, none⟩ = some (.slice ka x.known.length ma)) ∧ ClV w N (.agg #[.string x.chain, .int .i64 x.trust, .bool x.frozen, .slice ka x.known.length ma]) x := by
  have := (List.getElem?_eq_some_iff.1 hx).1
  obtain ⟨b, f, rfl, gx⟩ := h.spot (by omega)
  obtain ⟨hb, r, hr, cx⟩ := gx k x hx
  obtain ⟨kc, rfl, hkc⟩ := hr
  obtain ⟨ka, ma, rfl, -⟩ := hkc.shape
  exact ⟨b, f, ka, ma, rfl, hb, ⟨cx 0 _ rfl, cx 1 _ rfl, cx 2 _ rfl, cx 3 _ rfl⟩, _, rfl, hkc⟩
end Go.Proofs.YtclhcjiblfokaaaGreatDoor
namespace Go.Proofs.YtclhcjiblfokaaaGreatDoor
open Go.RowKit

/-- an end: a channel, and the client by which it is shown what stands on the other chain -/
def EndV (w : World) (N : Nat) (ev : Value) (c : Ch) (f : Cl) : Prop := ∃ ka ma, ev = .agg #[.int .i64 c.state, .bool c.ordered, .int .i64 c.conn, .int .i64 c.ochan, .int .i64 c.send, .int .i64 c.recv, .int .i64 c.ack, .string f.chain, .int .i64 f.trust, .bool f.frozen, .slice ka f.known.length ma] ∧ ClV w N (.agg #[.string f.chain, .int .i64 f.trust, .bool f.frozen, .slice ka f.known.length ma]) f
theorem EndV.below {w w' : World} {N : Nat} {ev : Value} {c : Ch} {f : Cl} (h : EndV w N ev c f) (hb : Below N w w') : EndV w' N ev c f := by
  obtain ⟨ka, ma, e, h⟩ := h
  exact ⟨ka, ma, e, h.below hb⟩
/-- what an end's answer is: an end, or none -/
def EndR (w : World) (N : Nat) (ev : Value) (s : St) (i z : Int) : Prop := (z = 0 → EndV w N ev (chAt s i) (folOf s i)) ∧ (z ≠ 0 → ev = .agg #[.int .i64 0, .bool false, .int .i64 0, .int .i64 0, .int .i64 0, .int .i64 0, .int .i64 0, .string ⟨#[]⟩, .int .i64 0, .bool false, .slice none 0 0])
theorem EndR.cells {w : World} {N : Nat} {ev : Value} {s : St} {i z : Int} (h : EndR w N ev s i z) : ∃ x0 x1 x2 x3 x4 x5 x6 x7 x8 x9 x10, ev = .agg #[x0, x1, x2, x3, x4, x5, x6, x7, x8, x9, x10] ∧ (#[x0, x1, x2, x3, x4, x5, x6, x7, x8, x9, x10] : Array Value).all (·.oneCell') = true := by
  by_cases hz : z = 0
  · obtain ⟨ka, ma, e, -⟩ := h.1 hz
    exact ⟨_, _, _, _, _, _, _, _, _, _, _, e, by simp [Value.oneCell']⟩
  · exact ⟨_, _, _, _, _, _, _, _, _, _, _, h.2 hz, by simp [Value.oneCell']⟩
set_option maxRecDepth 100000 in
set_option maxHeartbeats 4000000 in
theorem pkEndR {y0 y1 y2 y4 y5 y7 y8 y10 y11 y12 y13 y14 y15 y16 y17 y18 y19 y20 y21 y22 z23 z24 z25 z26 z27 z28 z29 z30 z31 z32 z33 z34 z35 : Value} {x0 x1 x2 x5 x6 x7 x8 x9 a0 a1 a3 a4 a5 a6 l0 l1 l2 l3 : Value} {gs go gr b1 f1 n1 c1 b2 f2 n2 c2 k j : Nat} {old : List Value} {w : World} (hgs : Hid (Row w gs 28 [x0, x1, x2, .slice (some ⟨b1, f1, none⟩) n1 c1, .slice (some ⟨b2, f2, none⟩) n2 c2, x5, x6, x7, x8, x9])) (hgo : Hid (Row w go 53 [a0, a1, .int .i64 (k : Int), a3, a4, a5, a6])) (hlb2 : (k : Int) < (n2 : Int)) (hbb2 : b2 < w.heap.size) (hcb2 : Hid (w.cell? ⟨b2, f2 + k * 4 + 1, none⟩ = some (.int .i64 (j : Int)))) (hlb1 : (j : Int) < (n1 : Int)) (hbb1 : b1 < w.heap.size) (hcb1 : Hid (w.cell? ⟨b1, f1 + j * 4, none⟩ = some (l0) ∧ w.cell? ⟨b1, f1 + j * 4 + 1, none⟩ = some (l1) ∧ w.cell? ⟨b1, f1 + j * 4 + 2, none⟩ = some (l2) ∧ w.cell? ⟨b1, f1 + j * 4 + 3, none⟩ = some (l3))) (hgr : Hid (Row w gr 81 old)) (hol : old.length = 11) (hone : (#[a0, a1, .int .i64 (k : Int), a3, a4, a5, a6, l0, l1, l2, l3] : Array Value).all (·.oneCell') = true)  (Q : Exit → Act → World → Prop)
    (hQ : Hid (∀ (σ : Nat → Value) (w' : World), Below w.heap.size w w' → Q .normal ⟨#[y0, y1, y2, .pointer (some ⟨gs, 0, none⟩), y4, y5, .pointer (some ⟨gr, 0, none⟩), .int .i64 0, y8, .pointer (some ⟨go, 0, none⟩), y10, y11, y12, y13, y14, y15, y16, y17, y18, y19, y20, y21, y22, σ 0, σ 1, σ 2, σ 3, σ 4, σ 5, σ 6, σ 7, σ 8, σ 9, σ 10, σ 11, σ 12], []⟩ (w'.setRow gr #[a0, a1, .int .i64 (k : Int), a3, a4, a5, a6, l0, l1, l2, l3]))) :
    Code.wp Tryz.prog (.region 5 ((Tryz.f32.body.bind (regOf 5)).getD #[]) true) Q ⟨#[y0, y1, y2, .pointer (some ⟨gs, 0, none⟩), y4, y5, .pointer (some ⟨gr, 0, none⟩), y7, y8, .pointer (some ⟨go, 0, none⟩), y10, y11, y12, y13, y14, y15, y16, y17, y18, y19, y20, y21, y22, z23, z24, z25, z26, z27, z28, z29, z30, z31, z32, z33, z34, z35], []⟩ w := by
  conv => arg 2; arg 2; whnf
  conv => arg 4; dsimp only
  refine region_grows_tail 13 (by kernel_rfl) (fun σ => #[y0, y1, y2, .pointer (some ⟨gs, 0, none⟩), y4, y5, .pointer (some ⟨gr, 0, none⟩), y7, y8, .pointer (some ⟨go, 0, none⟩), y10, y11, y12, y13, y14, y15, y16, y17, y18, y19, y20, y21, y22, σ 0, σ 1, σ 2, σ 3, σ 4, σ 5, σ 6, σ 7, σ 8, σ 9, σ 10, σ 11, σ 12]) (fun i => ([z23, z24, z25, z26, z27, z28, z29, z30, z31, z32, z33, z34, z35] : List Value).getD i undef) rfl (fun i X W => match i with
    | 0 => X = .agg #[a0, a1, .int .i64 (k : Int), a3, a4, a5, a6]
    | 1 => X = .pointer (some ⟨gs, 3, none⟩)
    | 2 => X = .slice (some ⟨b1, f1, none⟩) n1 c1
    | 3 => X = .pointer (some ⟨gs, 4, none⟩)
    | 4 => X = .slice (some ⟨b2, f2, none⟩) n2 c2
    | 5 => X = .pointer (some ⟨go, 2, none⟩)
    | 6 => X = .int .i64 (k : Int)
    | 7 => X = .pointer (some ⟨b2, f2 + k * 4, none⟩)
    | 8 => X = .pointer (some ⟨b2, f2 + k * 4 + 1, none⟩)
    | 9 => X = .int .i64 (j : Int)
    | 10 => X = .pointer (some ⟨b1, f1 + j * 4, none⟩)
    | 11 => X = .agg #[l0, l1, l2, l3]
    | 12 => X = .agg #[a0, a1, .int .i64 (k : Int), a3, a4, a5, a6, l0, l1, l2, l3]
    | _ => True) ?_ (by kernel_rfl) ?_ ?_
  · intro i X W W' HB H
    iterate 13 (obtain _ | i := i; first | exact H)
    exact H
  · refine ⟨?_, ?_, ?_, ?_, ?_, ?_, ?_, ?_, ?_, ?_, ?_, ?_, ?_, trivial⟩
    all_goals (intro σ W HJ hdep; simp [Region.binds] at hdep; have HJ := hid HJ; obtain ⟨gsk0, gsk1, gsk2, gsk3, gsk4, gsk5, gsk6, gsk7, gsk8, gsk9⟩ := (hgs.out.below HJ.out hgs.out.lt).k10; obtain ⟨gok0, gok1, gok2, gok3, gok4, gok5, gok6⟩ := (hgo.out.below HJ.out hgo.out.lt).k7; have b2k0 := hcb2.out; replace b2k0 := (HJ.out.cell (by exact hbb2)).trans b2k0; obtain ⟨b1k0, b1k1, b1k2, b1k3⟩ := hcb1.out; replace b1k0 := (HJ.out.cell (by exact hbb1)).trans b1k0; replace b1k1 := (HJ.out.cell (by exact hbb1)).trans b1k1; replace b1k2 := (HJ.out.cell (by exact hbb1)).trans b1k2; replace b1k3 := (HJ.out.cell (by exact hbb1)).trans b1k3)
    · refine wpOp_plain rfl rfl ?_; go_simp; exact Left.mk0 _ (by first | rfl | simp [updF, *]) HJ.out rfl
    · refine wpOp_plain rfl rfl ?_; go_simp; exact Left.mk0 _ (by first | rfl | simp [updF, *]) HJ.out rfl
    · refine wpOp_plain rfl rfl ?_; go_simp; exact Left.mk0 _ (by first | rfl | simp [updF, *]) HJ.out rfl
    · refine wpOp_plain rfl rfl ?_; go_simp; exact Left.mk0 _ (by first | rfl | simp [updF, *]) HJ.out rfl
    · refine wpOp_plain rfl rfl ?_; go_simp; exact Left.mk0 _ (by first | rfl | simp [updF, *]) HJ.out rfl
    · refine wpOp_plain rfl rfl ?_; go_simp; exact Left.mk0 _ (by first | rfl | simp [updF, *]) HJ.out rfl
    · refine wpOp_plain rfl rfl ?_; go_simp; exact Left.mk0 _ (by first | rfl | simp [updF, *]) HJ.out rfl
    · refine wpOp_plain rfl rfl ?_; go_simp; exact Left.mk0 _ (by first | rfl | simp [updF, *]) HJ.out rfl
    · refine wpOp_plain rfl rfl ?_; go_simp; exact Left.mk0 _ (by first | rfl | simp [updF, *]) HJ.out rfl
    · refine wpOp_plain rfl rfl ?_; go_simp; exact Left.mk0 _ (by first | rfl | simp [updF, *]) HJ.out rfl
    · refine wpOp_plain rfl rfl ?_; go_simp; exact Left.mk0 _ (by first | rfl | simp [updF, *]) HJ.out rfl
    · refine wpOp_plain rfl rfl ?_; go_simp; exact Left.mk0 _ (by first | rfl | simp [updF, *]) HJ.out rfl
    · refine wpOp_plain rfl rfl ?_; go_simp; exact Left.mk0 _ (by first | rfl | simp [updF, *]) HJ.out rfl
  · intro σ w' hb hg
    have h0 : σ 12 = .agg #[a0, a1, .int .i64 (k : Int), a3, a4, a5, a6, l0, l1, l2, l3] := hg 12 (by decide)
    have hrr := hgr.out.below hb hgr.out.lt
    have HQ := hid (hQ.out σ w' hb)
    clear hg hb
    simp only [List.drop_succ_cons, List.drop_zero]
    refine wpList_store_row rfl _ _ _ rfl gr #[a0, a1, .int .i64 (k : Int), a3, a4, a5, a6, l0, l1, l2, l3] rfl h0 81 old.toArray hrr (by kernel_rfl) (by simpa using hol) hone ?_
    rw [h0] at HQ
    go_wp2
    exact HQ.out
set_option maxRecDepth 100000 in
set_option maxHeartbeats 4000000 in
theorem pend_any (s : St) (v : Value) (N : Nat) (w : World) (i : Int) (ls : List Int) (gl nl : Nat) (hv : StV w N v s) (hN : N ≤ w.heap.size) (hfit : s.fits) (hl : Row w gl 3 (ls.map (Value.int .i64))) (hnl : nl = ls.length) (h10 : nl ≤ 10) :
    Calls Tryz.prog 32 #[v, .int .i64 i, .slice (some ⟨gl, 0, none⟩) nl nl] w fun e w' => Below w.heap.size w w' ∧ ∃ ev, e = .returned (.tuple #[ev, .int .i64 (cendL s i ls)]) ∧ EndR w' N ev s i (cendL s i ls) := by
  have HD := hid (fun wx (hx : Below w.heap.size w wx) => dend_any s v N wx i ls gl nl (hv.below (hx.mono hN)) (Nat.le_trans hN hx.size) hfit (hl.below hx hl.lt) hnl h10)
  obtain ⟨o1, c1, o2, c2, o3, c3, o4, c4, o5, c5, o6, c6, o7, c7, rfl, hm⟩ := hv.open
  have HM := hid hm
  clear hv hm hfit hl hnl h10
  go_enter Tryz.func32, Tryz.ntmps32
  go_upto_region 1 with fail
  refine fbox2 ?_
  intro w0 F0 hs
  go_wp2_with (refine F0.load 0 rfl rfl rfl rfl structState ?_)
  refine (HD.out _ F0.b).mono ?_
  rintro e w1 ⟨rfl, hb1⟩
  have F := F0.go hb1
  clear hb1 F0 hs HD
  by_cases hz : cendL s i ls = 0
  · obtain ⟨j, k, m, c, d, f, hij, hj, hca, hck, hd, hdm, hf, hfo, -, -, -⟩ := cendL_fol hz
    have HR := hid (show ∀ (w : World) (ev : Value), EndV w N ev c f → EndR w N ev s i (cendL s i ls) from fun w ev h => ⟨fun _ => by rw [hca, hfo]; exact h, fun h => absurd hz h⟩)
    have HZ := hid hz
    rw [hz]
    subst hij
    have hlj : (j : Int) < (s.chans.length : Int) := by have := (List.getElem?_eq_some_iff.1 hj).1; omega
    have hlk : (k : Int) < (s.conns.length : Int) := by have := (List.getElem?_eq_some_iff.1 hd).1; omega
    have hlm : (m : Int) < (s.clients.length : Int) := by have := (List.getElem?_eq_some_iff.1 hf).1; omega
    have HJ := hid hj
    have HDD := hid hd
    have HFF := hid hf
    clear hz hj hd hf hca hfo
    obtain ⟨s0, s1, s2, s3, s4, s5, s6⟩ := c
    simp only at hck
    subst hck
    obtain ⟨d0, d1, d2, d3⟩ := d
    simp only at hdm
    subst hdm
    obtain ⟨b, g, rfl, hb, x0, x1, x2, x3, x4, x5, x6⟩ := (HM.out.below (F.b.mono hN)).chans.chan rfl HJ.out
    have k5 := F.r0.k10.2.2.2.2.2.1
    go_upto_region 5 with fail
    refine F.box ?_
    intro w2 F2 hs2 hb2
    clear x0 x1 x2 x3 x4 x5 x6 k5 hs2 hb2 F hb
    obtain ⟨b2, f2, rfl, hbb2, -, y1, -⟩ := (HM.out.below (F2.b.mono hN)).conns.conn rfl HDD.out
    obtain ⟨b1, f1, ka, ma, rfl, hbb1, hcc, hcv⟩ := (HM.out.below (F2.b.mono hN)).clients.client rfl HFF.out
    have hsz := F2.b.size
    have HCV := hid hcv
    refine pkEndR (hid F2.r0) (hid F2.r2) hlk (by omega) (hid y1) hlm (by omega) (hid hcc) (hid F2.r1) rfl (by simp [Value.oneCell']) _ (hid ?_)
    intro σ w3 hb3
    have F3 := F2.go hb3
    have F4 := F3.only (i := 1) rfl (Row.setRow F3.r1 [.int .i64 s0, .bool s1, .int .i64 (k : Int), .int .i64 s3, .int .i64 s4, .int .i64 s5, .int .i64 s6, .string f.chain, .int .i64 f.trust, .bool f.frozen, .slice ka f.known.length ma]) (Only.row _ _ _)
    have HC4 := hid (fun cs => (HCV.out.below (hb3.mono (Nat.le_trans hN hsz))).below (setRow_kept (g := w.heap.size + 1) (Below.refl N w3) (by omega) cs))
    clear hcc hcv y1 hb3 HCV
    go_wp2
    refine ret_ct Tryz.results32 rfl F4.r1 structEnd rfl ⟨F4.b, _, by rw [HZ.out]; rfl, HR.out _ _ ⟨ka, ma, rfl, HC4.out _⟩⟩
  · have e0 : (cendL s i ls != 0) = true := by simpa using hz
    have HR := hid (show ∀ (w : World), EndR w N (.agg #[.int .i64 0, .bool false, .int .i64 0, .int .i64 0, .int .i64 0, .int .i64 0, .int .i64 0, .string ⟨#[]⟩, .int .i64 0, .bool false, .slice none 0 0]) s i (cendL s i ls) from fun w => ⟨fun h => absurd h hz, fun _ => rfl⟩)
    clear hz
    go_wp2_with (refine F.store 1 rfl rfl rfl rfl rfl structEnd rfl (by simp [Value.oneCell']) ?_; intro w2 F2 O2)
    exact ret_ct Tryz.results32 rfl F2.r1 structEnd rfl ⟨F2.b, _, rfl, HR.out _⟩
end Go.Proofs.YtclhcjiblfokaaaGreatDoor
namespace Go.Proofs.YtclhcjiblfokaaaGreatDoor
open Go.RowKit

set_option maxRecDepth 100000 in
set_option maxHeartbeats 4000000 in
theorem pwrong_any (p : Pk) (v : Value) (N : Nat) (w : World) (hv : PkV w N v p) : Calls Tryz.prog 7 #[v] w fun e w' => e = .returned (.int .i64 (wrongPk p)) ∧ Below w.heap.size w w' := by
  have HE := hid (show wrongPk p = if (fromB 0 p.src && (fromB 0 p.dst && (fromB 1 p.seq && fromB 1 p.tmo))) = false then 3 else if 150 < p.data.length then 4 else 0 from rfl)
  obtain ⟨od, cd, rfl, -⟩ := hv.open
  clear hv
  have HF := hid (fun lo n W => from_any lo n W)
  go_enter Tryz.func7, Tryz.ntmps7
  go_upto_region 1 with fail
  refine fbox1 ?_
  intro w0 F hs
  obtain ⟨k0, k1, k2, k3, k4⟩ := F.r0.k5
  have HB := hid F.b
  clear F hs
  cases h1 : fromB 0 p.src with
  | false =>
    have HR := hid (show wrongPk p = 3 by rw [HE.out, h1]; rfl)
    go_wp2_with (go_at_call 23; refine (HF.out _ _ _).mono ?_; rintro e w2 ⟨rfl, hw2⟩; obtain rfl := hw2.symm; first | rw [h1] | skip)
    go_ret
    exact ⟨by rw [HR.out]; rfl, HB.out⟩
  | true =>
    cases h2 : fromB 0 p.dst with
    | false =>
      have HR := hid (show wrongPk p = 3 by rw [HE.out, h1, h2]; rfl)
      go_wp2_with (go_at_call 23; refine (HF.out _ _ _).mono ?_; rintro e w2 ⟨rfl, hw2⟩; obtain rfl := hw2.symm; first | rw [h1] | rw [h2] | skip)
      go_ret
      exact ⟨by rw [HR.out]; rfl, HB.out⟩
    | true =>
      cases h3 : fromB 1 p.seq with
      | false =>
        have HR := hid (show wrongPk p = 3 by rw [HE.out, h1, h2, h3]; rfl)
        go_wp2_with (go_at_call 23; refine (HF.out _ _ _).mono ?_; rintro e w2 ⟨rfl, hw2⟩; obtain rfl := hw2.symm; first | rw [h1] | rw [h2] | rw [h3] | skip)
        go_ret
        exact ⟨by rw [HR.out]; rfl, HB.out⟩
      | true =>
        cases h4 : fromB 1 p.tmo with
        | false =>
          have HR := hid (show wrongPk p = 3 by rw [HE.out, h1, h2, h3, h4]; rfl)
          go_wp2_with (go_at_call 23; refine (HF.out _ _ _).mono ?_; rintro e w2 ⟨rfl, hw2⟩; obtain rfl := hw2.symm; first | rw [h1] | rw [h2] | rw [h3] | rw [h4] | skip)
          go_ret
          exact ⟨by rw [HR.out]; rfl, HB.out⟩
        | true =>
          have HE2 := hid (show wrongPk p = if 150 < p.data.length then 4 else 0 by rw [HE.out, h1, h2, h3, h4]; rfl)
          by_cases h5 : 150 < p.data.length
          · have e5 : decide ((150 : Int) < (p.data.length : Int)) = true := by simp; omega
            have HR := hid (HE2.out.trans (if_pos h5))
            go_wp2_with (go_at_call 23; refine (HF.out _ _ _).mono ?_; rintro e w2 ⟨rfl, hw2⟩; obtain rfl := hw2.symm; first | rw [h1] | rw [h2] | rw [h3] | rw [h4] | skip)
            go_ret
            exact ⟨by rw [HR.out]; rfl, HB.out⟩
          · have e5 : decide ((150 : Int) < (p.data.length : Int)) = false := by simp; omega
            have HR := hid (HE2.out.trans (if_neg h5))
            go_wp2_with (go_at_call 23; refine (HF.out _ _ _).mono ?_; rintro e w2 ⟨rfl, hw2⟩; obtain rfl := hw2.symm; first | rw [h1] | rw [h2] | rw [h3] | rw [h4] | skip)
            go_ret
            exact ⟨by rw [HR.out]; rfl, HB.out⟩
end Go.Proofs.YtclhcjiblfokaaaGreatDoor
namespace Go.Proofs.YtclhcjiblfokaaaGreatDoor
open Go.RowKit

set_option maxRecDepth 100000 in
set_option maxHeartbeats 4000000 in
theorem outR {y0 y1 y2 y3 y6 y7 y8 y9 y10 y11 y12 y28 y29 y30 y31 y32 y33 y34 y35 y36 y37 y38 z13 z14 z15 z16 z17 z18 z19 z20 z21 z22 z23 z24 z25 z26 z27 : Value} {e0 e1 e2 e3 e4 e5 e6 e7 e8 e9 p0 p1 p2 p3 : Value} {ge gp b f m n c : Nat} {t h : Int} {w : World} (hge : Hid (Row w ge 81 [e0, e1, e2, e3, e4, e5, e6, e7, e8, e9, .slice (some ⟨b, f, none⟩) n c])) (hgp : Hid (Row w gp 31 [p0, p1, p2, p3, .int .i64 t])) (hlb : (m : Int) < (n : Int)) (hbb : b < w.heap.size) (hcb : Hid (w.cell? ⟨b, f + m * 4, none⟩ = some (.int .i64 h))) (hwr : IntKind.i64.wrap ((n : Int) - 1) = (m : Int)) (Q : Exit → Act → World → Prop)
    (hQ : Hid (∀ (σ : Nat → Value) (w' : World), Below w.heap.size w w' → σ 14 = .bool (decide (t ≤ h)) → Q .normal ⟨#[y0, y1, y2, y3, .pointer (some ⟨ge, 0, none⟩), .pointer (some ⟨gp, 0, none⟩), y6, y7, y8, y9, y10, y11, y12, σ 14, σ 0, σ 1, σ 2, σ 3, σ 4, σ 5, σ 6, σ 7, σ 8, σ 9, σ 10, σ 11, σ 12, σ 13, y28, y29, y30, y31, y32, y33, y34, y35, y36, y37, y38], []⟩ w')) :
    Code.wp Tryz.prog (.region 4 ((Tryz.f33.body.bind (regOf 4)).getD #[]) true) Q ⟨#[y0, y1, y2, y3, .pointer (some ⟨ge, 0, none⟩), .pointer (some ⟨gp, 0, none⟩), y6, y7, y8, y9, y10, y11, y12, z13, z14, z15, z16, z17, z18, z19, z20, z21, z22, z23, z24, z25, z26, z27, y28, y29, y30, y31, y32, y33, y34, y35, y36, y37, y38], []⟩ w := by
  conv => arg 2; arg 2; whnf
  conv => arg 4; dsimp only
  refine region_grows (by kernel_rfl) (fun σ => #[y0, y1, y2, y3, .pointer (some ⟨ge, 0, none⟩), .pointer (some ⟨gp, 0, none⟩), y6, y7, y8, y9, y10, y11, y12, σ 14, σ 0, σ 1, σ 2, σ 3, σ 4, σ 5, σ 6, σ 7, σ 8, σ 9, σ 10, σ 11, σ 12, σ 13, y28, y29, y30, y31, y32, y33, y34, y35, y36, y37, y38]) (fun i => ([z14, z15, z16, z17, z18, z19, z20, z21, z22, z23, z24, z25, z26, z27, z13] : List Value).getD i undef) rfl (fun i X W => match i with
    | 0 => X = .pointer (some ⟨ge, 7, none⟩)
    | 1 => X = .pointer (some ⟨ge, 10, none⟩)
    | 2 => X = .slice (some ⟨b, f, none⟩) n c
    | 3 => X = .pointer (some ⟨ge, 7, none⟩)
    | 4 => X = .pointer (some ⟨ge, 10, none⟩)
    | 5 => X = .slice (some ⟨b, f, none⟩) n c
    | 6 => X = .int .i64 (n : Int)
    | 7 => X = .int .i64 (m : Int)
    | 8 => X = .pointer (some ⟨b, f + m * 4, none⟩)
    | 9 => X = .pointer (some ⟨b, f + m * 4, none⟩)
    | 10 => X = .int .i64 h
    | 11 => X = .pointer (some ⟨gp, 4, none⟩)
    | 12 => X = .int .i64 t
    | 13 => X = .bool (decide (t ≤ h))
    | 14 => X = .bool (decide (t ≤ h))
    | _ => True) ?_ (by kernel_rfl) ?_ ?_
  · intro i X W W' HB H
    iterate 15 (obtain _ | i := i; first | exact H)
    exact H
  · refine ⟨?_, ?_, ?_, ?_, ?_, ?_, ?_, ?_, ?_, ?_, ?_, ?_, ?_, ?_, ?_, trivial⟩
    all_goals (intro σ W HJ hdep; simp [Region.binds] at hdep; have HJ := hid HJ; obtain ⟨gek0, gek1, gek2, gek3, gek4, gek5, gek6, gek7, gek8, gek9, gek10⟩ := (hge.out.below HJ.out hge.out.lt).k11; obtain ⟨gpk0, gpk1, gpk2, gpk3, gpk4⟩ := (hgp.out.below HJ.out hgp.out.lt).k5; have bk0 := hcb.out; replace bk0 := (HJ.out.cell (by exact hbb)).trans bk0)
    · refine wpOp_plain rfl rfl ?_; go_simp; exact Left.mk0 _ (by first | rfl | simp [updF, *]) HJ.out rfl
    · refine wpOp_plain rfl rfl ?_; go_simp; exact Left.mk0 _ (by first | rfl | simp [updF, *]) HJ.out rfl
    · refine wpOp_plain rfl rfl ?_; go_simp; exact Left.mk0 _ (by first | rfl | simp [updF, *]) HJ.out rfl
    · refine wpOp_plain rfl rfl ?_; go_simp; exact Left.mk0 _ (by first | rfl | simp [updF, *]) HJ.out rfl
    · refine wpOp_plain rfl rfl ?_; go_simp; exact Left.mk0 _ (by first | rfl | simp [updF, *]) HJ.out rfl
    · refine wpOp_plain rfl rfl ?_; go_simp; exact Left.mk0 _ (by first | rfl | simp [updF, *]) HJ.out rfl
    · refine wpOp_plain rfl rfl ?_; go_simp; exact Left.mk0 _ (by first | rfl | simp [updF, *]) HJ.out rfl
    · refine wpOp_plain rfl rfl ?_; go_simp; exact Left.mk0 _ (by first | rfl | simp [updF, *]) HJ.out rfl
    · refine wpOp_plain rfl rfl ?_; go_simp; exact Left.mk0 _ (by first | rfl | simp [updF, *]) HJ.out rfl
    · refine wpOp_plain rfl rfl ?_; go_simp; exact Left.mk0 _ (by first | rfl | simp [updF, *]) HJ.out rfl
    · refine wpOp_plain rfl rfl ?_; go_simp; exact Left.mk0 _ (by first | rfl | simp [updF, *]) HJ.out rfl
    · refine wpOp_plain rfl rfl ?_; go_simp; exact Left.mk0 _ (by first | rfl | simp [updF, *]) HJ.out rfl
    · refine wpOp_plain rfl rfl ?_; go_simp; exact Left.mk0 _ (by first | rfl | simp [updF, *]) HJ.out rfl
    · refine wpOp_plain rfl rfl ?_; go_simp; exact Left.mk0 _ (by first | rfl | simp [updF, *]) HJ.out rfl
    · refine wpOp_plain rfl rfl ?_; go_simp; exact Left.mk0 _ (by first | rfl | simp [updF, *]) HJ.out rfl
  · intro σ w' hb hg
    exact hQ.out σ w' hb (hg 14 (by decide))
set_option maxRecDepth 100000 in
set_option maxHeartbeats 4000000 in
theorem outs_any (s : St) (c : Ch) (f : Cl) (p : Pk) (v ev pv : Value) (N : Nat) (w : World) (hv : StV w N v s) (he : EndV w N ev c f) (hp : PkV w N pv p) (hN : N ≤ w.heap.size) (hcl : wrongCl f = 0) :
    Calls Tryz.prog 33 #[v, ev, pv] w fun e w' => e = .returned (.int .i64 (outN s p (lastH f) c.send)) ∧ Below w.heap.size w w' := by
  have HWP := hid (fun wx (hx : Below w.heap.size w wx) => pwrong_any p pv N wx (hp.below (hx.mono hN)))
  obtain ⟨o1, c1, o2, c2, o3, c3, o4, c4, o5, c5, o6, c6, o7, c7, rfl, hm⟩ := hv.open
  obtain ⟨ka, ma, rfl, hfv⟩ := he
  obtain ⟨od, cd, rfl, hd⟩ := hp.open
  obtain ⟨kv, ekv, hk⟩ := hfv
  have ekv' : kv = .slice ka f.known.length ma := by simpa using ekv.symm
  subst ekv'
  obtain ⟨_, _, ⟨hn1, hn2⟩, hall, _⟩ := (wrongCl_iff f).1 hcl
  obtain ⟨n, hn⟩ : ∃ n, f.known.length = n + 1 := ⟨f.known.length - 1, by omega⟩
  obtain ⟨x, hx⟩ : ∃ x, f.known[n]? = some x := ⟨f.known[n]'(by omega), List.getElem?_eq_getElem _⟩
  have HLH := hid (show lastH f = x.height by unfold lastH; rw [List.getLast?_eq_getElem?, hn, Nat.add_sub_cancel, hx])
  have HE := hid (show outN s p (lastH f) c.send = if wrongPk p ≠ 0 then wrongPk p else if p.tmo ≤ x.height then 11 else if 50 ≤ s.sent.length ∨ 1000000000000 ≤ c.send then 5 else 0 by rw [← HLH.out]; rfl)
  obtain ⟨b, o, rfl, hcells⟩ := hk.spot (by omega)
  obtain ⟨hbN, vr, vn, d0, -⟩ := hcells n x hx
  have HD0 := hid d0
  have hwr : IntKind.i64.wrap ((f.known.length : Int) - 1) = (n : Int) := by rw [hn, IntKind.wrap_i64]; omega
  have hln : (n : Int) < (f.known.length : Int) := by omega
  have HWR := hid hwr
  clear hv hp hm hd ekv hk hcells hall hcl d0 hx hn hn1 hn2 hwr
  go_enter Tryz.func33, Tryz.ntmps33
  go_upto_region 1 with fail
  refine fbox3 ?_
  intro w0 F0 hs
  go_wp2_with (refine F0.load 2 rfl rfl rfl rfl structPacket ?_)
  refine (HWP.out _ F0.b).mono ?_
  rintro e w1 ⟨rfl, hb1⟩
  have F := F0.go hb1
  clear hb1 F0 hs HWP
  by_cases hz : wrongPk p = 0
  · have HS := hid (HE.out.trans (if_neg (by simp [hz])))
    rw [hz]
    clear hz HE
    go_upto_region 4 with fail
    refine outR (hid F.r1) (hid F.r2) hln (by have := F.b.size; omega) (hid ((F.b.cell (by show b < _; omega)).trans HD0.out)) HWR.out _ (hid ?_)
    intro σ w2 hb2 e14
    have F2 := F.go hb2
    rw [e14]
    clear e14 hb2 F
    have k6 := F2.r0.k10.2.2.2.2.2.2.1
    have k4 := F2.r1.k11.2.2.2.2.1
    by_cases h1 : p.tmo ≤ x.height
    · have HL := hid (HS.out.trans (if_pos h1))
      rw [show decide (p.tmo ≤ x.height) = true from decide_eq_true h1]
      clear h1
      go_wp2
      go_ret
      exact ⟨by rw [HL.out]; rfl, F2.b⟩
    have HS2 := hid (HS.out.trans (if_neg h1))
    rw [show decide (p.tmo ≤ x.height) = false from decide_eq_false h1]
    clear h1
    by_cases h2 : 50 ≤ s.sent.length
    · have HL := hid (HS2.out.trans (if_pos (.inl h2)))
      have e2 : decide ((50 : Int) ≤ (s.sent.length : Int)) = true := by simp; omega
      have e2n : decide (50 ≤ s.sent.length) = true := by simpa using h2
      clear h2
      go_wp2
      go_ret
      exact ⟨by rw [HL.out]; rfl, F2.b⟩
    have e2 : decide ((50 : Int) ≤ (s.sent.length : Int)) = false := by simp; omega
    have e2n : decide (50 ≤ s.sent.length) = false := by simpa using h2
    by_cases h3 : 1000000000000 ≤ c.send
    · have HL := hid (HS2.out.trans (if_pos (.inr h3)))
      have e3 : decide ((1000000000000 : Int) ≤ c.send) = true := by simpa using h3
      clear h2 h3
      go_wp2
      go_ret
      exact ⟨by rw [HL.out]; rfl, F2.b⟩
    · have HL := hid (HS2.out.trans (if_neg (by omega)))
      have e3 : decide ((1000000000000 : Int) ≤ c.send) = false := by simpa using h3
      clear h2 h3
      go_wp2
      go_ret
      exact ⟨by rw [HL.out]; rfl, F2.b⟩
  · have e0 : (wrongPk p != 0) = true := by simpa using hz
    have HS := hid (HE.out.trans (if_pos hz))
    clear hz
    go_wp2
    go_ret
    exact ⟨by rw [HS.out]; rfl, F.b⟩
end Go.Proofs.YtclhcjiblfokaaaGreatDoor
namespace Go.Proofs.YtclhcjiblfokaaaGreatDoor
open Go.RowKit

abbrev Fr.list {w w1 : World} {l : List Bx} (_ : Fr w l w1) : List Bx := l
theorem Fr.grown {w w1 w2 : World} {l : List Bx} {o : Option Nat} (F : Fr w l w1) (hg : w1.grownBy w2 o) (ho : ∀ b, o = some b → w.heap.size ≤ b ∧ ∀ g ∈ l.map (·.1), g ≠ b) : Fr w l w2 :=
  ⟨F.b.trans ⟨hg.os, hg.tape, hg.output, hg.size, fun k hk => hg.block k (Nat.lt_of_lt_of_le hk F.b.size) fun e => by have := (ho k e.symm).1; omega⟩, fun r hr => (hg.block r.1 (F.rows r hr).lt fun e => (ho r.1 e.symm).2 r.1 (List.mem_map.2 ⟨r, hr, rfl⟩) rfl).trans (F.rows r hr), F.own, F.apart⟩
theorem ret_cct {fn : Func} {R : Ending → World → Prop} {a : Act} {w : World} {s g s' g' u : Nat} {t t' : TypeId} {cs cs' : List Value} (hf : fn.results = #[.cell s t, .cell s' t', .tmp u]) (hs : a.tmps.getD s undef = .pointer (some ⟨g, 0, none⟩)) (hs2 : a.tmps.getD s' undef = .pointer (some ⟨g', 0, none⟩)) (hr : Row w g t cs) (hr2 : Row w g' t' cs') (ht : Struct t cs.length) (ht2 : Struct t' cs'.length) (hd : a.defers = []) (hR : R (.returned (.tuple #[.agg cs.toArray, .agg cs'.toArray, a.tmps.getD u undef])) w) : bodyPost Tryz.prog fn R .ret a w := by
  have hs' : a.tmps[s]?.getD undef = .pointer (some ⟨g, 0, none⟩) := by simpa using hs
  have hs'' : a.tmps[s']?.getD undef = .pointer (some ⟨g', 0, none⟩) := by simpa using hs2
  exact bodyPost_ret (by simp [results, hf, hs', hs'', asAddr, load_struct hr ht, load_struct hr2 ht2]) hd hR
theorem EndR.below {w w' : World} {N : Nat} {ev : Value} {s : St} {i z : Int} (h : EndR w N ev s i z) (hb : Below N w w') : EndR w' N ev s i z := ⟨fun hz => (h.1 hz).below hb, h.2⟩
theorem StOwnM.only {Z : Nat → Prop} {base g : Nat} {w w' : World} {s : St} {X : World → Prop} {v1 v2 v3 v4 v5 v6 v7 : Value} (h : StOwnM Z base w s X v1 v2 v3 v4 v5 v6 v7) (O : Only g w w') (hg : ¬ Z g) : StOwnM Z base w' s X v1 v2 v3 v4 v5 v6 v7 :=
  h.on O.below fun b _ hZ => O.same b fun e => hg (e ▸ hZ)
theorem StOwnM.own {Z : Nat → Prop} {base : Nat} {w : World} {s : St} {X : World → Prop} {v1 v2 v3 v4 v5 v6 v7 : Value} (h : StOwnM Z base w s X v1 v2 v3 v4 v5 v6 v7) : ∀ i b, stO v2 v3 v4 v5 v6 v7 i = some b → base ≤ b ∧ b < w.heap.size := by
  obtain ⟨r4, r5, r6, h⟩ := h
  exact stP_own base s X v1 v2 v3 v4 v5 v6 v7 r4 r5 r6 h.now
theorem StOwnM.holds {Z : Nat → Prop} {N base base' : Nat} {w : World} {t : St} {X : World → Prop} {v1 v2 v3 v4 v5 v6 v7 : Value} (h : StOwnM Z base w t X v1 v2 v3 v4 v5 v6 v7) (hZ : ∀ b, Z b → b < N ∨ base' ≤ b) : HoldsS N base' w (.agg #[.string t.name, .int .i64 t.height, .int .i64 t.time, v1, v2, v3, v4, v5, v6, v7]) t :=
  ⟨fun _ hb => hb.2, fun _ hb hk => ⟨v1, v2, v3, v4, v5, v6, v7, rfl, (h.on hb (fun b hlt hr => hk b ⟨hZ b hr, hlt⟩)).mem⟩⟩
/-- what reads as a packet: below N, or from base on -/
def HoldsP (N base : Nat) (w : World) (v : Value) (p : Pk) : Prop := Held (fun b => (b < N ∨ base ≤ b) ∧ b < w.heap.size) w (fun w2 => PkV w2 w2.heap.size v p)
theorem holdsP_none (N base : Nat) (w : World) : HoldsP N base w (.agg #[.int .i64 0, .int .i64 0, .int .i64 0, .slice none 0 0, .int .i64 0]) Pk.none := ⟨fun _ h => h.2, fun w2 _ _ => pkV_none w2 _⟩
theorem digPk_length (p : Pk) : (digPk p).length = 32 := sha_length _
/-- what Send is to answer -/
def SendC (f : FuncId) : Prop := ∀ (s : St) (v dv : Value) (data : List (BitVec 8)) (N : Nat) (w : World) (i tmo : Int), StV w N v s → Bytes w N dv data → N ≤ w.heap.size → s.fits → data.length ≤ 140737488351232 → tableAt w →
  Calls Tryz.prog f #[v, .int .i64 i, dv, .int .i64 tmo] w fun e w' => Below w.heap.size w w' ∧ ∃ v' pv, e = .returned (.tuple #[v', pv, .int .i64 (sendN s i data tmo)]) ∧ HoldsS N w.heap.size w' v' (sendS s i data tmo) ∧ HoldsP N w.heap.size w' pv (sendP s i data tmo)
theorem sendS_no {s : St} {i : Int} {data : List (BitVec 8)} {tmo : Int} (h : sendN s i data tmo ≠ 0) : sendS s i data tmo = St.none ∧ sendP s i data tmo = Pk.none := ⟨if_neg h, if_neg h⟩
/-- a mark more of what was sent, by a mark whose digest was just made -/
theorem sent_more {N : Nat} {w W : World} {base : Nat} {s : St} {v1 v2 v3 v4 v5 v6 v7 : Value} (h : StOwnM (fun b => b < N ∨ base ≤ b) base w s noX v1 v2 v3 v4 v5 v6 v7) (hb : base ≤ w.heap.size) (hs : SortM s.sent) (hl : s.sent.length ≤ 1000) (ch seq : Int) (dig : List (BitVec 8)) (od : Option Addr) (nd cd : Nat) (hW : Below w.heap.size w W) (ho : OwnB W w.heap.size (.slice od nd cd) dig) :
    Calls Tryz.prog 36 #[v4, .agg #[.int .i64 ch, .int .i64 seq, .slice od nd cd]] W fun e w' => ∃ v', e = .returned v' ∧ W.grownBy w' v4.ownBlock ∧ StOwnM (fun b => b < N ∨ base ≤ b) base w' { s with sent := withM s.sent ⟨ch, seq, dig⟩ } (fun w2 => Bytes w2 w2.heap.size (.slice od nd cd) dig) v1 v2 v3 v' v5 v6 v7 := by
  have hown := h.own
  have hX := (h.below hW).add (X := fun w2 => Bytes w2 w2.heap.size (.slice od nd cd) dig) (fun b => w.heap.size ≤ b ∧ b < W.heap.size) ho.held (fun b hF => .inr (by omega)) (fun b hF i e => by have := (hown i b e).2; omega)
  obtain ⟨rs, hrow, hE, hput⟩ := hX.putSent
  refine (with_any s.sent ⟨ch, seq, dig⟩ od nd cd v4 base W rs hrow hE hs hl (Nat.le_trans hb hW.size)).mono ?_
  rintro e w' ⟨hg, v', rs', rfl, hrow', hn', hm'⟩
  exact ⟨v', rfl, hg, hput w' v' rs' _ hg hrow' hn' (fun b e => .inr (RowT.own hrow' b e).1) hm'⟩
set_option maxRecDepth 100000 in
set_option maxHeartbeats 4000000 in
theorem psendC : SendC 11 := by
  intro s v dv data N w i tmo hv hd hN hfit hdl htab
  have HE := hid (show sendN s i data tmo = if cendL s i [3] ≠ 0 then cendL s i [3] else outN s (sendPk s i data tmo) (lastH (folOf s i)) (chAt s i).send from rfl)
  have HEN := hid (fun W gl (hx : Below w.heap.size w W) (hr : Row W gl 3 [.int .i64 3]) => pend_any s v N W i [3] gl 1 (hv.below (hx.mono hN)) (Nat.le_trans hN hx.size) hfit hr rfl (by decide))
  have HOU := hid (fun W ev pv (c : Ch) (f : Cl) (p : Pk) (hx : Below w.heap.size w W) (he : EndV W N ev c f) (hp : PkV W N pv p) (hcl : wrongCl f = 0) => outs_any s c f p v ev pv N W (hv.below (hx.mono hN)) he hp (Nat.le_trans hN hx.size) hcl)
  have HCB := hid (fun W (hx : Below w.heap.size w W) => cloneB_any data dv N W (hd.below (hx.mono hN)) hdl)
  have HCP := hid (fun W (hx : Below w.heap.size w W) (hfw : few s) => copyM s v N W (hv.below (hx.mono hN)) (Nat.le_trans hN hx.size) hfit hfw)
  have HTB := hid (fun W (hx : Below w.heap.size w W) => htab.past hx)
  have HBD := hid (fun W (hx : Below w.heap.size w W) => hd.below (hx.mono hN))
  obtain ⟨o1, c1, o2, c2, o3, c3, o4, c4, o5, c5, o6, c6, o7, c7, rfl, hm⟩ := hv.open
  obtain ⟨odd, cdd, rfl, -⟩ := hd.shape
  clear hv hd hfit htab hm
  go_enter Tryz.func11, Tryz.ntmps11
  go_upto_region 1 with fail
  refine fbox3 ?_
  intro w0 F0 hs0
  go_wp2_with (refine F0.load 0 rfl rfl rfl rfl structState ?_)
  refine boxC ?_
  intro w2 hr2 hb2
  refine (HEN.out w2 _ (F0.go hb2).b hr2).mono ?_
  rintro e w3 ⟨hb3, ev, rfl, her⟩
  have F3 := (F0.go hb2).go hb3
  obtain ⟨y0, y1, y2, y3, y4, y5, y6, y7, y8, y9, y10, hev, hone⟩ := her.cells
  subst hev
  have HER := hid her
  have HON := hid hone
  have HS3 := hid (show w.heap.size + 3 ≤ w3.heap.size by have := hb2.size; have := hb3.size; omega)
  clear her hone hr2 hb2 hb3 F0 hs0 HEN
  go_upto_region 2 with (refine F3.storeNew rfl rfl rfl rfl structEnd rfl HON.out ?_; intro w4 F4 hb4)
  have HER4 := hid (HER.out.below (hb4.mono (Nat.le_trans hN F3.b.size)))
  have HS4 := hid (show w3.heap.size < w4.heap.size from F4.r3.lt)
  clear HER HON hb4 F3
  by_cases hz : cendL s i [3] = 0
  · have HE2 := hid (HE.out.trans (if_neg (by simp [hz])))
    obtain ⟨j, k, m, c, d, f, hij, hj, hca, hck, hd, hdm, hf, hfo, hwc, hwf, -⟩ := cendL_fol hz
    obtain ⟨ka, ma, hev, hfv⟩ := HER4.out.1 hz
    rw [hca, hfo] at hev
    rw [hfo] at hfv
    have HEQ := hid (show sendPk s i data tmo = ⟨i, c.ochan, c.send, data, tmo⟩ by unfold sendPk; rw [hca])
    rw [hca, hfo, HEQ.out] at HE2
    have HWS := hid (cendL_ok hz).1
    simp only [Value.agg.injEq, Array.mk.injEq, List.cons.injEq, and_true] at hev
    obtain ⟨rfl, rfl, rfl, rfl, rfl, rfl, rfl, rfl, rfl, rfl, rfl⟩ := hev
    rw [hz]
    have HFV := hid hfv
    have HJ := hid hj
    have HIJ := hid hij
    have HCA := hid hca
    have HWC := hid (wrongCh_ok hwc)
    have HWF := hid hwf
    clear hz hij hj hca hck hd hdm hf hfo hwc hwf hfv HER4 HE
    have k3 := F4.r3.k11.2.2.2.1
    have k4 := F4.r3.k11.2.2.2.2.1
    go_upto_region 5 with fail
    refine F4.box ?_
    intro w5 F5 hs5 hb5
    have HFV5 := hid (show EndV w5 N _ c f from ⟨ka, ma, rfl, HFV.out.below (hb5.mono (Nat.le_trans hN F4.b.size))⟩)
    clear k3 k4 hs5 hb5 F4 HFV
    go_wp2_with (first | refine F5.load 0 rfl rfl rfl rfl structState ?_ | refine F5.load 3 rfl rfl rfl rfl structEnd ?_ | refine F5.load 4 rfl rfl rfl rfl structPacket ?_)
    refine (HOU.out w5 _ _ c f ⟨i, c.ochan, c.send, data, tmo⟩ F5.b HFV5.out ⟨_, rfl, HBD.out w5 F5.b⟩ HWF.out).mono ?_
    rintro e w6 ⟨rfl, hb6⟩
    have F6 := F5.go hb6
    clear hb6 F5 HFV5 HOU
    by_cases hz2 : outN s ⟨i, c.ochan, c.send, data, tmo⟩ (lastH f) c.send = 0
    · have HZN := hid (HE2.out.trans hz2)
      have hwp : wrongPk ⟨i, c.ochan, c.send, data, tmo⟩ = 0 := by
        unfold outN at hz2
        split at hz2
        · rename_i h1; exact absurd hz2 h1
        · rename_i h1; simpa using h1
      have hsl : c.send < 1000000000000 := by
        unfold outN at hz2
        rw [if_neg (by simp [hwp])] at hz2
        split at hz2
        · cases hz2
        split at hz2
        · cases hz2
        omega
      rw [hz2]
      have HWP := hid hwp
      clear hz2 hwp HE2
      have hz0 := F6.r4.lt
      go_wp2_with fail
      refine (HCB.out w6 F6.b).mono ?_
      rintro e w7 ⟨hb7, dv', rfl, hown⟩
      obtain ⟨od, cd, rfl, -⟩ := hown.shape
      have F7 := F6.go hb7
      have HBY := hid hown.held
      have hsz7 := hb7.size
      clear hown hb7 HCB
      have kp := F7.r4.k5.2.2.2.1
      have zp := F7.r4.frozen 3
      go_upto_region 9 with fail
      refine F7.cell 4 rfl ?_
      intro w8 F8 O8
      have HBY8 := hid (show Held (fun b => w6.heap.size ≤ b ∧ b < w7.heap.size) w8 (fun w2 => Bytes w2 w2.heap.size (.slice od data.length cd) data) from HBY.out.on O8.below fun b hF => O8.same b (by have := hF.1; omega))
      have hsz8 := O8.size
      clear kp zp O8 F7 HBY
      go_wp2_with (refine F8.load 0 rfl rfl rfl rfl structState ?_)
      refine (HCP.out w8 F8.b (wrongS_few HWS.out)).mono ?_
      rintro e w9 ⟨hb9, p1, d1, p2, d2, p3, d3, p4, d4, p5, d5, p6, d6, p7, d7, rfl, hown⟩
      have F9 := F8.go hb9
      have hg0 := F8.r0.lt
      have hg1 := F8.r1.lt
      have hg2 := F8.r2.lt
      have hg3 := F8.r3.lt
      have hg4 := F8.r4.lt
      have hsz9 := hb9.size
      have HO9 := hid hown
      have HBY9 := hid (HBY8.out.below hb9)
      clear hown hb9 HCP HBY8
      go_upto_region 10 with (refine F9.store 0 rfl rfl rfl rfl rfl structState rfl (by simp [Value.oneCell']) ?_; intro w10 F10 O10)
      have HO10 := hid (HO9.out.only O10 (by omega))
      have HBY10 := hid (show Held (fun b => w6.heap.size ≤ b ∧ b < w7.heap.size) w10 _ from HBY9.out.on O10.below fun b hF => O10.same b (by have := hF.1; have := F6.r0.lt; omega))
      have hsz10 := O10.size
      have HF6 := hid F6.lts
      clear O10 F9 HO9 HBY9 F6
      have hgot := wrongS_right HWS.out
      have HSO := hid hgot.sent.2
      have hmany := hgot.many
      clear hgot
      have hlt0 : ∀ g ∈ [w.heap.size, w.heap.size + 1, w.heap.size + 1 + 1, w3.heap.size, w4.heap.size], g < w8.heap.size := F8.lts
      refine sendR10 (hid F10.r0) (hid F10.r4) (dig := digPk ⟨i, c.ochan, c.send, data, tmo⟩)
        (fun W hW => ?dig)
        (fun v W => Fr w F10.list W ∧ StOwnM (fun b => b < N ∨ w8.heap.size ≤ b) w8.heap.size W { s with sent := withM s.sent ⟨i, c.send, digPk ⟨i, c.ochan, c.send, data, tmo⟩⟩ } noX (.slice p1 s.clients.length d1) (.slice p2 s.conns.length d2) (.slice p3 s.chans.length d3) v (.slice p5 s.got.length d5) (.slice p6 s.acks.length d6) (.slice p7 s.purses.length d7) ∧ Held (fun b => w6.heap.size ≤ b ∧ b < w7.heap.size) W (fun w2 => Bytes w2 w2.heap.size (.slice od data.length cd) data) ∧ ∃ o n c, v = .slice o n c)
        ?post (fun W od' cd' hW ho => ?wth) _ (hid ?_)
      case post => exact fun v W h => ⟨h.1.r0, h.2.2.2⟩
      case dig =>
        refine (pdigC ⟨i, c.ochan, c.send, data, tmo⟩ _ W.heap.size W (HTB.out W (F10.go hW).b) ⟨_, rfl, (HBY10.out.below hW).now⟩ (Nat.le_refl _) HWP.out).mono ?_
        rintro e w' ⟨x, rfl, ho, hb⟩
        obtain ⟨ox, cx, rfl, -⟩ := ho.shape
        rw [digPk_length] at ho ⊢
        exact ⟨ox, cx, rfl, ho, hb⟩
      case wth =>
        refine (sent_more HO10.out (by omega) HSO.out (by omega) i c.send _ od' 32 cd' hW ho).mono ?_
        rintro e w' ⟨v', rfl, hg, hown⟩
        have hob := HO10.out.own 4
        refine ⟨v', rfl, (F10.go hW).grown hg fun b e => ⟨?_, fun g hg' => ?_⟩, (hown.add (X := noX) (fun _ => False) ⟨fun _ h => h.elim, fun _ _ _ => trivial⟩ (fun _ h => h.elim) (fun _ h => h.elim)), (HBY10.out.below hW).grown hg fun b e hF => ?_, ?_⟩
        · have := (hob b e).1; omega
        · have := hlt0 g hg'
          have := (hob b e).1
          omega
        · have := (hob b e).1; omega
        · obtain ⟨o, cp, h, -⟩ := hown.mem.sent.shape
          exact ⟨_, _, _, h⟩
      intro σ W ⟨FW, hown, hby, o, n, cc, hv8⟩
      dsimp only [Fr.list] at FW
      have F11 := FW.set1 0 6 (σ 8) rfl
      have O11 := (Only.refl w.heap.size W).cell 6 (σ 8)
      have HO11 := hid (hown.only O11 (by omega))
      have HBY11 := hid (show Held (fun b => w6.heap.size ≤ b ∧ b < w7.heap.size) _ _ from hby.on O11.below fun b hF => O11.same b (by have := hF.1; have := HF6.out w.heap.size (.head _); omega))
      rw [hv8] at F11 HO11 HBY11 ⊢
      clear O11 hown hby FW hv8 F10 HO10 HBY10
      generalize W.setCell ⟨w.heap.size, 6, none⟩ (.slice o n cc) = w11 at *
      obtain ⟨g, hpg, hgb, hgl, hcc, hfz⟩ := RowT.at HO11.out.chans (r := chCells c) (i := j) (by rw [List.getElem?_map, HJ.out]; rfl)
      subst hpg
      have f4 := hcc 4 _ rfl
      have z4 := hfz (j * 7 + 4)
      have k5 := F11.r0.k10.2.2.2.2.2.1
      have hij := HIJ.out
      subst hij
      have hlt : (j : Int) < (s.chans.length : Int) := by have := (List.getElem?_eq_some_iff.1 HJ.out).1; omega
      have hwr : IntKind.i64.wrap (c.send + 1) = c.send + 1 := by have := HWC.out; rw [IntKind.wrap_i64]; omega
      have hput := RowT.putCell HO11.out.chans (i := j) (j := 4) (x := .int .i64 (c.send + 1)) (r := chCells c) (by rw [List.getElem?_map, HJ.out]; rfl) (by decide) rfl
      have hput' : OwnC 53 chCells 7 (w11.setCell ⟨g, j * 7 + 4, none⟩ (.int .i64 (c.send + 1))) w8.heap.size (.slice (some ⟨g, 0, none⟩) s.chans.length d3) (s.chans.set j c.sent1) := by
        have e : (s.chans.map chCells).set j ((chCells c).set 4 (.int .i64 (c.send + 1))) = (s.chans.set j c.sent1).map chCells := by rw [List.map_set]; rfl
        rw [e] at hput
        exact hput
      have hgr : w11.grownBy (w11.setCell ⟨g, j * 7 + 4, none⟩ (.int .i64 (c.send + 1))) (some g) := grown_putCells w11 g (j * 7 + 4) [.int .i64 (c.send + 1)]
      have HO12 := hid (HO11.out.putChans hgr hput' (fun b e => .inl e) (fun b e => .inr (RowT.own hput' b e).1))
      have hne : ∀ q ∈ [w.heap.size, w.heap.size + 1, w.heap.size + 1 + 1, w3.heap.size, w4.heap.size], q < g := fun q hq => Nat.lt_of_lt_of_le (hlt0 q hq) hgb
      have F12 := F11.past (w2 := w11.setCell ⟨g, j * 7 + 4, none⟩ (.int .i64 (c.send + 1))) ((Below.refl g _).setCell (Nat.le_refl g) _) (by have := hne _ (.head _); omega) hne
      have HBY12 := hid (show Held (fun b => w6.heap.size ≤ b ∧ b < w7.heap.size) (w11.setCell ⟨g, j * 7 + 4, none⟩ (.int .i64 (c.send + 1))) _ from HBY11.out.on ((Below.refl 0 _).setCell (Nat.zero_le _) _) fun b hF => Below.heap_setCell _ _ _ _ (by show b ≠ g; omega))
      obtain ⟨w12, hw12⟩ : ∃ w12, w11.setCell ⟨g, j * 7 + 4, none⟩ (.int .i64 (c.send + 1)) = w12 := ⟨_, rfl⟩
      rw [hw12] at HO12 F12 HBY12
      have HW12 := hid hw12
      clear hw12 hput hput' hcc hfz HO11 HBY11
      go_upto_region 12 with fail
      refine at_world HW12.out ?_
      clear f4 z4 k5 F11 hwr
      have hap : w.heap.size + 1 < w3.heap.size ∧ w.heap.size + 1 + 1 < w3.heap.size ∧ w3.heap.size < w4.heap.size := by
        have := HS3.out
        have := HS4.out
        omega
      refine sendR12 (hid F12.r0) (hid F12.r4) (hid F12.r1) rfl (hid F12.r2) rfl (by simp [Value.oneCell']) (by simp [Value.oneCell']) ⟨by omega, by omega, by omega, by omega, by omega⟩ _ (hid ?_)
      intro σ' W' hT hra hrb e4
      rw [e4]
      have HOF := hid (HO12.out.on hT.below fun b hlt hZ => hT.same b (by omega) (by omega))
      have HBF := hid (HBY12.out.on hT.below fun b hF => hT.same b (by omega) (by omega))
      have HBW := hid (show Below w.heap.size w W' from F12.b.trans ⟨hT.below.os, hT.below.tape, hT.below.output, hT.below.size, fun b hb => hT.same b (by omega) (by omega)⟩)
      have HSZ := hid hT.size
      clear e4 hT F12 HO12 HBY12
      go_wp2
      refine ret_cct Tryz.results11 rfl rfl hra hrb structState structPacket rfl ⟨HBW.out, _, _, by rw [HZN.out]; rfl, ?_, ?_⟩
      · have e : sendS s (j : Int) data tmo = { ({ s with sent := withM s.sent ⟨(j : Int), c.send, digPk ⟨(j : Int), c.ochan, c.send, data, tmo⟩⟩ } : St) with chans := s.chans.set j c.sent1 } := by
          unfold sendS
          rw [if_pos HZN.out, HEQ.out]
          unfold sentS setCh
          rw [HCA.out]
          rfl
        rw [e]
        exact HOF.out.holds (fun b hb => hb.imp id (fun h => by omega))
      · have e : sendP s (j : Int) data tmo = ⟨(j : Int), c.ochan, c.send, data, tmo⟩ := by
          unfold sendP
          rw [if_pos HZN.out, HEQ.out]
        rw [e]
        refine ⟨fun b hb => hb.2, fun w2 hb hk => ⟨_, rfl, HBF.out.2 w2 hb fun b hF => hk b ⟨.inr (by omega), HBF.out.1 b hF⟩⟩⟩
    · have HZN := hid HE2.out
      have HNZ := hid (show sendN s i data tmo ≠ 0 by rw [HE2.out]; exact hz2)
      have e0 : (outN s ⟨i, c.ochan, c.send, data, tmo⟩ (lastH f) c.send != 0) = true := by simpa using hz2
      clear hz2
      go_wp2_with (first | (refine F6.store 1 rfl rfl rfl rfl rfl structState rfl (by simp [Value.oneCell']) ?_; intro wz1 FZ1 OZ1) | (refine FZ1.store 2 rfl rfl rfl rfl rfl structPacket rfl (by simp [Value.oneCell']) ?_; intro wz2 FZ2 OZ2))
      refine ret_cct Tryz.results11 rfl rfl FZ2.r1 FZ2.r2 structState structPacket rfl ⟨FZ2.b, _, _, by rw [HZN.out]; rfl, ?_, ?_⟩
      · rw [(sendS_no HNZ.out).1]
        exact holdsS_none _ _ _
      · rw [(sendS_no HNZ.out).2]
        exact holdsP_none _ _ _
  · have HZN := hid (HE.out.trans (if_pos hz))
    have HNZ := hid (show sendN s i data tmo ≠ 0 by rw [HZN.out]; exact hz)
    have e0 : (cendL s i [3] != 0) = true := by simpa using hz
    clear hz HE
    go_wp2_with (first | (refine F4.store 1 rfl rfl rfl rfl rfl structState rfl (by simp [Value.oneCell']) ?_; intro wz1 FZ1 OZ1) | (refine FZ1.store 2 rfl rfl rfl rfl rfl structPacket rfl (by simp [Value.oneCell']) ?_; intro wz2 FZ2 OZ2))
    refine ret_cct Tryz.results11 rfl rfl FZ2.r1 FZ2.r2 structState structPacket rfl ⟨FZ2.b, _, _, by rw [HZN.out]; rfl, ?_, ?_⟩
    · rw [(sendS_no HNZ.out).1]
      exact holdsS_none _ _ _
    · rw [(sendS_no HNZ.out).2]
      exact holdsP_none _ _ _
end Go.Proofs.YtclhcjiblfokaaaGreatDoor
