/-
  PacketPlaces: its closure.
-/
import Derived.Test.YtclhcjiblfokaaaGreatDoorppFrKit
import Derived.Test.YtclhcjiblfokaaaGreatDoorppPkKit
import Derived.Test.YtclhcjiblfokaaaGreatDoorppRegWant
import Derived.Test.YtclhcjiblfokaaaGreatDoorppPkOnceW
import Derived.Test.YtclhcjiblfokaaaGreatDoorppPkMath
import Derived.Test.YtclhcjiblfokaaaGreatDoorppStSameF
import Derived.Test.YtclhcjiblfokaaaGreatDoorppStWrong
import Derived.Test.YtclhcjiblfokaaaGreatDoorppSameB
import Derived.Test.YtclhcjiblfokaaaGreatDoorppSt9RKit
namespace Go.Proofs.YtclhcjiblfokaaaGreatDoor
open Go.RowKit

theorem Row.k1 {w : World} {g : Nat} {t : TypeId} {x0 : Value} (h : Row w g t [x0]) : w.cell? ⟨g, 0, none⟩ = some x0 := h.cell 0
theorem Row.k2 {w : World} {g : Nat} {t : TypeId} {x0 x1 : Value} (h : Row w g t [x0, x1]) : w.cell? ⟨g, 0, none⟩ = some x0 ∧ w.cell? ⟨g, 1, none⟩ = some x1 := ⟨h.cell 0, h.cell 1⟩
theorem Row.loadL {ops : Array Oper} {rest : List Oper} {o : Oper} {a : Act} {w1 : World} {Q : Exit → Act → World → Prop} {g : Nat} {t : TypeId} {x : Operand} {cs : List Value} (hr : Row w1 g t cs) (hgd : o.guard = none) (ho : o.op = .load t x) (hx : a.eval x = .pointer (some ⟨g, 0, none⟩)) (hs : Struct t cs.length)
    (h : wpList Tryz.prog ops Q rest (a.put o.dst (.agg cs.toArray)) w1) : wpList Tryz.prog ops Q (o :: rest) a w1 := by
  obtain ⟨⟨d, hu, hd⟩, hz⟩ := hs
  exact wpList_load_row hgd t x ho g hx t cs.toArray (0, 0) d hr hu (by cases d <;> first | rfl | cases hd) (by simpa using hz) h
set_option maxRecDepth 100000 in
set_option maxHeartbeats 4000000 in
theorem plR8a {y0 y1 y5 y6 y8 y9 y10 y11 y12 y13 y14 y15 y16 y17 y18 y19 y20 y21 y22 y23 y24 y25 y26 y27 y28 y29 y30 y31 y32 y33 y50 y51 y52 y53 y54 y55 y56 y57 y58 y59 y60 y61 y62 y63 y64 y65 y66 y67 y68 y69 y70 y71 y72 y73 y74 y75 y76 y77 y78 y79 y80 y81 y82 y83 y84 y85 y86 y87 y88 y89 y90 y91 y92 y93 y94 y95 y96 y97 y98 y99 y100 y101 y102 y103 y104 y105 y106 y107 y108 y109 y110 y111 y112 y113 y114 y115 y116 y117 y118 y119 y120 y121 z34 z35 z36 z37 z38 z39 z40 z41 z42 z43 z44 z45 z46 z47 z48 z49 : Value} {gs gt go k : Nat} {own : Int} {w : World} (hgo : Hid (Row w go 3 [.int .i64 own])) (hne : ((k : Int) != own) = false) (Q : Exit → Act → World → Prop)
    (hQ : Hid (∀ (σ : Nat → Value) (w' : World), Below w.heap.size w w' → σ 15 = .bool false → Q .normal ⟨#[y0, y1, .pointer (some ⟨gs, 0, none⟩), .pointer (some ⟨go, 0, none⟩), .pointer (some ⟨gt, 0, none⟩), y5, y6, .int .i64 (k : Int), y8, y9, y10, y11, y12, y13, y14, y15, y16, y17, y18, y19, y20, y21, y22, y23, y24, y25, y26, y27, y28, y29, y30, y31, y32, y33, σ 0, σ 1, σ 2, σ 3, σ 4, σ 5, σ 6, σ 7, σ 8, σ 9, σ 10, σ 11, σ 12, σ 13, σ 14, σ 15, y50, y51, y52, y53, y54, y55, y56, y57, y58, y59, y60, y61, y62, y63, y64, y65, y66, y67, y68, y69, y70, y71, y72, y73, y74, y75, y76, y77, y78, y79, y80, y81, y82, y83, y84, y85, y86, y87, y88, y89, y90, y91, y92, y93, y94, y95, y96, y97, y98, y99, y100, y101, y102, y103, y104, y105, y106, y107, y108, y109, y110, y111, y112, y113, y114, y115, y116, y117, y118, y119, y120, y121], []⟩ w')) :
    Code.wp Tryz.prog (.region 8 ((Tryz.f20.body.bind (regOf 8)).getD #[]) true) Q ⟨#[y0, y1, .pointer (some ⟨gs, 0, none⟩), .pointer (some ⟨go, 0, none⟩), .pointer (some ⟨gt, 0, none⟩), y5, y6, .int .i64 (k : Int), y8, y9, y10, y11, y12, y13, y14, y15, y16, y17, y18, y19, y20, y21, y22, y23, y24, y25, y26, y27, y28, y29, y30, y31, y32, y33, z34, z35, z36, z37, z38, z39, z40, z41, z42, z43, z44, z45, z46, z47, z48, z49, y50, y51, y52, y53, y54, y55, y56, y57, y58, y59, y60, y61, y62, y63, y64, y65, y66, y67, y68, y69, y70, y71, y72, y73, y74, y75, y76, y77, y78, y79, y80, y81, y82, y83, y84, y85, y86, y87, y88, y89, y90, y91, y92, y93, y94, y95, y96, y97, y98, y99, y100, y101, y102, y103, y104, y105, y106, y107, y108, y109, y110, y111, y112, y113, y114, y115, y116, y117, y118, y119, y120, y121], []⟩ w := by
  conv => arg 2; arg 2; whnf
  conv => arg 4; dsimp only
  refine region_grows (by kernel_rfl) (fun σ => #[y0, y1, .pointer (some ⟨gs, 0, none⟩), .pointer (some ⟨go, 0, none⟩), .pointer (some ⟨gt, 0, none⟩), y5, y6, .int .i64 (k : Int), y8, y9, y10, y11, y12, y13, y14, y15, y16, y17, y18, y19, y20, y21, y22, y23, y24, y25, y26, y27, y28, y29, y30, y31, y32, y33, σ 0, σ 1, σ 2, σ 3, σ 4, σ 5, σ 6, σ 7, σ 8, σ 9, σ 10, σ 11, σ 12, σ 13, σ 14, σ 15, y50, y51, y52, y53, y54, y55, y56, y57, y58, y59, y60, y61, y62, y63, y64, y65, y66, y67, y68, y69, y70, y71, y72, y73, y74, y75, y76, y77, y78, y79, y80, y81, y82, y83, y84, y85, y86, y87, y88, y89, y90, y91, y92, y93, y94, y95, y96, y97, y98, y99, y100, y101, y102, y103, y104, y105, y106, y107, y108, y109, y110, y111, y112, y113, y114, y115, y116, y117, y118, y119, y120, y121]) (fun i => ([z34, z35, z36, z37, z38, z39, z40, z41, z42, z43, z44, z45, z46, z47, z48, z49] : List Value).getD i undef) rfl (fun i X W => match i with
    | 0 => X = .int .i64 (k : Int)
    | 1 => X = .int .i64 own
    | 2 => X = .bool false
    | 3 => X = .bool false
    | 4 => X = undef
    | 5 => X = undef
    | 6 => X = undef
    | 7 => X = undef
    | 8 => X = undef
    | 9 => X = undef
    | 10 => X = undef
    | 11 => X = undef
    | 12 => X = undef
    | 13 => X = undef
    | 14 => X = undef
    | 15 => X = .bool false
    | _ => True) ?_ (by kernel_rfl) ?_ ?_
  · intro i X W W' HB H
    iterate 16 (obtain _ | i := i; first | exact H)
    exact H
  · refine ⟨?_, ?_, ?_, ?_, ?_, ?_, ?_, ?_, ?_, ?_, ?_, ?_, ?_, ?_, ?_, ?_, trivial⟩
    all_goals (intro σ W HJ hdep; simp [Region.binds] at hdep; have HJ := hid HJ; have gok0 := (hgo.out.below HJ.out hgo.out.lt).k1)
    · refine wpOp_plain rfl rfl ?_; go_simp; exact Left.mk0 _ (by first | rfl | simp [updF, *]) HJ.out rfl
    · refine wpOp_plain rfl rfl ?_; go_simp; exact Left.mk0 _ (by first | rfl | simp [updF, *]) HJ.out rfl
    · refine wpOp_plain rfl rfl ?_; go_simp; exact Left.mk0 _ (by first | rfl | simp [updF, *]) HJ.out rfl
    · refine wpOp_plain rfl rfl ?_; go_simp; exact Left.mk0 _ (by first | rfl | simp [updF, *]) HJ.out rfl
    · refine wpOp_skip rfl (by first | (simp [Region.wanted, yielded, *]; done) | simp [Region.wanted, yielded, undef, *]) ?_; exact Left.mk0 undef (by first | rfl | simp [updF, *]) HJ.out rfl
    · refine wpOp_skip rfl (by first | (simp [Region.wanted, yielded, *]; done) | simp [Region.wanted, yielded, undef, *]) ?_; exact Left.mk0 undef (by first | rfl | simp [updF, *]) HJ.out rfl
    · refine wpOp_skip rfl (by first | (simp [Region.wanted, yielded, *]; done) | simp [Region.wanted, yielded, undef, *]) ?_; exact Left.mk0 undef (by first | rfl | simp [updF, *]) HJ.out rfl
    · refine wpOp_skip rfl (by first | (simp [Region.wanted, yielded, *]; done) | simp [Region.wanted, yielded, undef, *]) ?_; exact Left.mk0 undef (by first | rfl | simp [updF, *]) HJ.out rfl
    · refine wpOp_skip rfl (by first | (simp [Region.wanted, yielded, *]; done) | simp [Region.wanted, yielded, undef, *]) ?_; exact Left.mk0 undef (by first | rfl | simp [updF, *]) HJ.out rfl
    · refine wpOp_skip rfl (by first | (simp [Region.wanted, yielded, *]; done) | simp [Region.wanted, yielded, undef, *]) ?_; exact Left.mk0 undef (by first | rfl | simp [updF, *]) HJ.out rfl
    · refine wpOp_skip rfl (by first | (simp [Region.wanted, yielded, *]; done) | simp [Region.wanted, yielded, undef, *]) ?_; exact Left.mk0 undef (by first | rfl | simp [updF, *]) HJ.out rfl
    · refine wpOp_skip rfl (by first | (simp [Region.wanted, yielded, *]; done) | simp [Region.wanted, yielded, undef, *]) ?_; exact Left.mk0 undef (by first | rfl | simp [updF, *]) HJ.out rfl
    · refine wpOp_skip rfl (by first | (simp [Region.wanted, yielded, *]; done) | simp [Region.wanted, yielded, undef, *]) ?_; exact Left.mk0 undef (by first | rfl | simp [updF, *]) HJ.out rfl
    · refine wpOp_skip rfl (by first | (simp [Region.wanted, yielded, *]; done) | simp [Region.wanted, yielded, undef, *]) ?_; exact Left.mk0 undef (by first | rfl | simp [updF, *]) HJ.out rfl
    · refine wpOp_skip rfl (by first | (simp [Region.wanted, yielded, *]; done) | simp [Region.wanted, yielded, undef, *]) ?_; exact Left.mk0 undef (by first | rfl | simp [updF, *]) HJ.out rfl
    · refine wpOp_plain rfl rfl ?_; go_simp; exact Left.mk0 _ (by first | rfl | simp [updF, *]) HJ.out rfl
  · intro σ w' hb hg
    exact hQ.out σ w' hb (hg 15 (by decide))
set_option maxRecDepth 100000 in
set_option maxHeartbeats 4000000 in
theorem plR8b {y0 y1 y5 y6 y8 y9 y10 y11 y12 y13 y14 y15 y16 y17 y18 y19 y20 y21 y22 y23 y24 y25 y26 y27 y28 y29 y30 y31 y32 y33 y50 y51 y52 y53 y54 y55 y56 y57 y58 y59 y60 y61 y62 y63 y64 y65 y66 y67 y68 y69 y70 y71 y72 y73 y74 y75 y76 y77 y78 y79 y80 y81 y82 y83 y84 y85 y86 y87 y88 y89 y90 y91 y92 y93 y94 y95 y96 y97 y98 y99 y100 y101 y102 y103 y104 y105 y106 y107 y108 y109 y110 y111 y112 y113 y114 y115 y116 y117 y118 y119 y120 y121 z34 z35 z36 z37 z38 z39 z40 z41 z42 z43 z44 z45 z46 z47 z48 z49 : Value} {x0 x1 x2 x3 x4 x6 x7 x8 x9 t0 t1 t2 t3 t4 t6 t7 t8 t9 : Value} {gs gt go k b f n c b2 f2 n2 c2 : Nat} {own : Int} {e1 : Bool} {e0 e2 e3 e4 e5 e6 : Int} {w : World} (hgo : Hid (Row w go 3 [.int .i64 own])) (hgs : Hid (Row w gs 28 [x0, x1, x2, x3, x4, .slice (some ⟨b, f, none⟩) n c, x6, x7, x8, x9])) (hgt : Hid (Row w gt 28 [t0, t1, t2, t3, t4, .slice (some ⟨b2, f2, none⟩) n2 c2, t6, t7, t8, t9])) (hlb : (k : Int) < (n : Int)) (hbb : b < w.heap.size) (hcb : Hid (w.cell? ⟨b, f + k * 7, none⟩ = some (.int .i64 e0) ∧ w.cell? ⟨b, f + k * 7 + 1, none⟩ = some (.bool e1) ∧ w.cell? ⟨b, f + k * 7 + 2, none⟩ = some (.int .i64 e2) ∧ w.cell? ⟨b, f + k * 7 + 3, none⟩ = some (.int .i64 e3) ∧ w.cell? ⟨b, f + k * 7 + 4, none⟩ = some (.int .i64 e4) ∧ w.cell? ⟨b, f + k * 7 + 5, none⟩ = some (.int .i64 e5) ∧ w.cell? ⟨b, f + k * 7 + 6, none⟩ = some (.int .i64 e6))) (hlb2 : (k : Int) < (n2 : Int)) (hbb2 : b2 < w.heap.size) (hcb2 : Hid (w.cell? ⟨b2, f2 + k * 7, none⟩ = some (.int .i64 e0) ∧ w.cell? ⟨b2, f2 + k * 7 + 1, none⟩ = some (.bool e1) ∧ w.cell? ⟨b2, f2 + k * 7 + 2, none⟩ = some (.int .i64 e2) ∧ w.cell? ⟨b2, f2 + k * 7 + 3, none⟩ = some (.int .i64 e3) ∧ w.cell? ⟨b2, f2 + k * 7 + 4, none⟩ = some (.int .i64 e4) ∧ w.cell? ⟨b2, f2 + k * 7 + 5, none⟩ = some (.int .i64 e5) ∧ w.cell? ⟨b2, f2 + k * 7 + 6, none⟩ = some (.int .i64 e6))) (hne : ((k : Int) != own) = true) (Q : Exit → Act → World → Prop)
    (hQ : Hid (∀ (σ : Nat → Value) (w' : World), Below w.heap.size w w' → σ 15 = .bool false → Q .normal ⟨#[y0, y1, .pointer (some ⟨gs, 0, none⟩), .pointer (some ⟨go, 0, none⟩), .pointer (some ⟨gt, 0, none⟩), y5, y6, .int .i64 (k : Int), y8, y9, y10, y11, y12, y13, y14, y15, y16, y17, y18, y19, y20, y21, y22, y23, y24, y25, y26, y27, y28, y29, y30, y31, y32, y33, σ 0, σ 1, σ 2, σ 3, σ 4, σ 5, σ 6, σ 7, σ 8, σ 9, σ 10, σ 11, σ 12, σ 13, σ 14, σ 15, y50, y51, y52, y53, y54, y55, y56, y57, y58, y59, y60, y61, y62, y63, y64, y65, y66, y67, y68, y69, y70, y71, y72, y73, y74, y75, y76, y77, y78, y79, y80, y81, y82, y83, y84, y85, y86, y87, y88, y89, y90, y91, y92, y93, y94, y95, y96, y97, y98, y99, y100, y101, y102, y103, y104, y105, y106, y107, y108, y109, y110, y111, y112, y113, y114, y115, y116, y117, y118, y119, y120, y121], []⟩ w')) :
    Code.wp Tryz.prog (.region 8 ((Tryz.f20.body.bind (regOf 8)).getD #[]) true) Q ⟨#[y0, y1, .pointer (some ⟨gs, 0, none⟩), .pointer (some ⟨go, 0, none⟩), .pointer (some ⟨gt, 0, none⟩), y5, y6, .int .i64 (k : Int), y8, y9, y10, y11, y12, y13, y14, y15, y16, y17, y18, y19, y20, y21, y22, y23, y24, y25, y26, y27, y28, y29, y30, y31, y32, y33, z34, z35, z36, z37, z38, z39, z40, z41, z42, z43, z44, z45, z46, z47, z48, z49, y50, y51, y52, y53, y54, y55, y56, y57, y58, y59, y60, y61, y62, y63, y64, y65, y66, y67, y68, y69, y70, y71, y72, y73, y74, y75, y76, y77, y78, y79, y80, y81, y82, y83, y84, y85, y86, y87, y88, y89, y90, y91, y92, y93, y94, y95, y96, y97, y98, y99, y100, y101, y102, y103, y104, y105, y106, y107, y108, y109, y110, y111, y112, y113, y114, y115, y116, y117, y118, y119, y120, y121], []⟩ w := by
  conv => arg 2; arg 2; whnf
  conv => arg 4; dsimp only
  refine region_grows (by kernel_rfl) (fun σ => #[y0, y1, .pointer (some ⟨gs, 0, none⟩), .pointer (some ⟨go, 0, none⟩), .pointer (some ⟨gt, 0, none⟩), y5, y6, .int .i64 (k : Int), y8, y9, y10, y11, y12, y13, y14, y15, y16, y17, y18, y19, y20, y21, y22, y23, y24, y25, y26, y27, y28, y29, y30, y31, y32, y33, σ 0, σ 1, σ 2, σ 3, σ 4, σ 5, σ 6, σ 7, σ 8, σ 9, σ 10, σ 11, σ 12, σ 13, σ 14, σ 15, y50, y51, y52, y53, y54, y55, y56, y57, y58, y59, y60, y61, y62, y63, y64, y65, y66, y67, y68, y69, y70, y71, y72, y73, y74, y75, y76, y77, y78, y79, y80, y81, y82, y83, y84, y85, y86, y87, y88, y89, y90, y91, y92, y93, y94, y95, y96, y97, y98, y99, y100, y101, y102, y103, y104, y105, y106, y107, y108, y109, y110, y111, y112, y113, y114, y115, y116, y117, y118, y119, y120, y121]) (fun i => ([z34, z35, z36, z37, z38, z39, z40, z41, z42, z43, z44, z45, z46, z47, z48, z49] : List Value).getD i undef) rfl (fun i X W => match i with
    | 0 => X = .int .i64 (k : Int)
    | 1 => X = .int .i64 own
    | 2 => X = .bool true
    | 3 => X = .bool true
    | 4 => X = .pointer (some ⟨gs, 5, none⟩)
    | 5 => X = .slice (some ⟨b, f, none⟩) n c
    | 6 => X = .int .i64 (k : Int)
    | 7 => X = .pointer (some ⟨b, f + k * 7, none⟩)
    | 8 => X = .agg #[.int .i64 e0, .bool e1, .int .i64 e2, .int .i64 e3, .int .i64 e4, .int .i64 e5, .int .i64 e6]
    | 9 => X = .pointer (some ⟨gt, 5, none⟩)
    | 10 => X = .slice (some ⟨b2, f2, none⟩) n2 c2
    | 11 => X = .int .i64 (k : Int)
    | 12 => X = .pointer (some ⟨b2, f2 + k * 7, none⟩)
    | 13 => X = .agg #[.int .i64 e0, .bool e1, .int .i64 e2, .int .i64 e3, .int .i64 e4, .int .i64 e5, .int .i64 e6]
    | 14 => X = .bool false
    | 15 => X = .bool false
    | _ => True) ?_ (by kernel_rfl) ?_ ?_
  · intro i X W W' HB H
    iterate 16 (obtain _ | i := i; first | exact H)
    exact H
  · refine ⟨?_, ?_, ?_, ?_, ?_, ?_, ?_, ?_, ?_, ?_, ?_, ?_, ?_, ?_, ?_, ?_, trivial⟩
    all_goals (intro σ W HJ hdep; simp [Region.binds] at hdep; have HJ := hid HJ; have gok0 := (hgo.out.below HJ.out hgo.out.lt).k1; obtain ⟨gsk0, gsk1, gsk2, gsk3, gsk4, gsk5, gsk6, gsk7, gsk8, gsk9⟩ := (hgs.out.below HJ.out hgs.out.lt).k10; obtain ⟨gtk0, gtk1, gtk2, gtk3, gtk4, gtk5, gtk6, gtk7, gtk8, gtk9⟩ := (hgt.out.below HJ.out hgt.out.lt).k10; obtain ⟨bk0, bk1, bk2, bk3, bk4, bk5, bk6⟩ := hcb.out; replace bk0 := (HJ.out.cell (by exact hbb)).trans bk0; replace bk1 := (HJ.out.cell (by exact hbb)).trans bk1; replace bk2 := (HJ.out.cell (by exact hbb)).trans bk2; replace bk3 := (HJ.out.cell (by exact hbb)).trans bk3; replace bk4 := (HJ.out.cell (by exact hbb)).trans bk4; replace bk5 := (HJ.out.cell (by exact hbb)).trans bk5; replace bk6 := (HJ.out.cell (by exact hbb)).trans bk6; obtain ⟨b2k0, b2k1, b2k2, b2k3, b2k4, b2k5, b2k6⟩ := hcb2.out; replace b2k0 := (HJ.out.cell (by exact hbb2)).trans b2k0; replace b2k1 := (HJ.out.cell (by exact hbb2)).trans b2k1; replace b2k2 := (HJ.out.cell (by exact hbb2)).trans b2k2; replace b2k3 := (HJ.out.cell (by exact hbb2)).trans b2k3; replace b2k4 := (HJ.out.cell (by exact hbb2)).trans b2k4; replace b2k5 := (HJ.out.cell (by exact hbb2)).trans b2k5; replace b2k6 := (HJ.out.cell (by exact hbb2)).trans b2k6)
    · refine wpOp_plain rfl rfl ?_; go_simp; exact Left.mk0 _ (by first | rfl | simp [updF, *]) HJ.out rfl
    · refine wpOp_plain rfl rfl ?_; go_simp; exact Left.mk0 _ (by first | rfl | simp [updF, *]) HJ.out rfl
    · refine wpOp_plain rfl rfl ?_; go_simp; exact Left.mk0 _ (by first | rfl | simp [updF, *]) HJ.out rfl
    · refine wpOp_plain rfl rfl ?_; go_simp; exact Left.mk0 _ (by first | rfl | simp [updF, *]) HJ.out rfl
    · refine wpOp_want rfl (by simp [Region.wanted, yielded, *]) ?_; go_simp; exact Left.mk0 _ (by first | rfl | simp [updF, *]) HJ.out rfl
    · refine wpOp_want rfl (by simp [Region.wanted, yielded, *]) ?_; go_simp; exact Left.mk0 _ (by first | rfl | simp [updF, *]) HJ.out rfl
    · refine wpOp_want rfl (by simp [Region.wanted, yielded, *]) ?_; go_simp; exact Left.mk0 _ (by first | rfl | simp [updF, *]) HJ.out rfl
    · refine wpOp_want rfl (by simp [Region.wanted, yielded, *]) ?_; go_simp; exact Left.mk0 _ (by first | rfl | simp [updF, *]) HJ.out rfl
    · refine wpOp_want rfl (by simp [Region.wanted, yielded, *]) ?_; go_simp; exact Left.mk0 _ (by first | rfl | simp [updF, *]) HJ.out rfl
    · refine wpOp_want rfl (by simp [Region.wanted, yielded, *]) ?_; go_simp; exact Left.mk0 _ (by first | rfl | simp [updF, *]) HJ.out rfl
    · refine wpOp_want rfl (by simp [Region.wanted, yielded, *]) ?_; go_simp; exact Left.mk0 _ (by first | rfl | simp [updF, *]) HJ.out rfl
    · refine wpOp_want rfl (by simp [Region.wanted, yielded, *]) ?_; go_simp; exact Left.mk0 _ (by first | rfl | simp [updF, *]) HJ.out rfl
    · refine wpOp_want rfl (by simp [Region.wanted, yielded, *]) ?_; go_simp; exact Left.mk0 _ (by first | rfl | simp [updF, *]) HJ.out rfl
    · refine wpOp_want rfl (by simp [Region.wanted, yielded, *]) ?_; go_simp; exact Left.mk0 _ (by first | rfl | simp [updF, *]) HJ.out rfl
    · refine wpOp_want rfl (by simp [Region.wanted, yielded, *]) ?_; go_simp; exact Left.mk0 _ (by first | rfl | simp [updF, *]) HJ.out rfl
    · refine wpOp_plain rfl rfl ?_; go_simp; exact Left.mk0 _ (by first | rfl | simp [updF, *]) HJ.out rfl
  · intro σ w' hb hg
    exact hQ.out σ w' hb (hg 15 (by decide))
set_option maxRecDepth 100000 in
set_option maxHeartbeats 4000000 in
theorem plR22 {y0 y1 y3 y5 y6 y7 y8 y9 y10 y11 y12 y13 y14 y15 y16 y17 y18 y19 y20 y21 y22 y23 y24 y25 y26 y27 y28 y29 y30 y31 y32 y33 y34 y35 y36 y37 y38 y39 y40 y41 y42 y43 y44 y45 y46 y47 y48 y49 y50 y51 y52 y53 y54 y55 y56 y57 y58 y59 y60 y61 y62 y63 y64 y65 y66 y67 y68 y69 y70 y71 y72 y73 y74 y75 y76 y77 y78 y79 y80 y81 y82 y83 y84 y85 y86 y87 y88 y89 y90 y91 y92 y93 y94 y95 y96 y97 y98 y99 y100 y101 y102 y103 y104 y105 y106 y119 y120 y121 z107 z108 z109 z110 z111 z112 z113 z114 z115 z116 z117 z118 x0 x1 x2 x3 x4 x9 t0 t1 t2 t3 t4 t5 t6 t7 t8 t9 : Value} {q5 q6 q7 q8 : Option Addr} {gs gt n5 c5 n6 c6 n7 c7 n8 c8 : Nat} {w : World} (hne : gs ≠ gt) (hgs : Hid (Row w gs 28 [x0, x1, x2, x3, x4, (.slice q5 n5 c5), (.slice q6 n6 c6), (.slice q7 n7 c7), (.slice q8 n8 c8), x9])) (hgt : Hid (Row w gt 28 [t0, t1, t2, t3, t4, t5, t6, t7, t8, t9])) (Q : Exit → Act → World → Prop)
    (hQ : Hid (∀ (σ : Nat → Value) (W : World), Only gt w W → Row W gt 28 [t0, t1, t2, t3, t4, (.slice q5 n5 c5), (.slice q6 n6 c6), (.slice q7 n7 c7), (.slice q8 n8 c8), t9] → Q .normal ⟨#[y0, y1, .pointer (some ⟨gs, 0, none⟩), y3, .pointer (some ⟨gt, 0, none⟩), y5, y6, y7, y8, y9, y10, y11, y12, y13, y14, y15, y16, y17, y18, y19, y20, y21, y22, y23, y24, y25, y26, y27, y28, y29, y30, y31, y32, y33, y34, y35, y36, y37, y38, y39, y40, y41, y42, y43, y44, y45, y46, y47, y48, y49, y50, y51, y52, y53, y54, y55, y56, y57, y58, y59, y60, y61, y62, y63, y64, y65, y66, y67, y68, y69, y70, y71, y72, y73, y74, y75, y76, y77, y78, y79, y80, y81, y82, y83, y84, y85, y86, y87, y88, y89, y90, y91, y92, y93, y94, y95, y96, y97, y98, y99, y100, y101, y102, y103, y104, y105, y106, σ 0, σ 1, σ 2, σ 3, σ 4, σ 5, σ 6, σ 7, σ 8, σ 10, σ 12, σ 14, y119, y120, y121], []⟩ W)) :
    Code.wp Tryz.prog (.region 22 ((Tryz.f20.body.bind (regOf 22)).getD #[]) true) Q ⟨#[y0, y1, .pointer (some ⟨gs, 0, none⟩), y3, .pointer (some ⟨gt, 0, none⟩), y5, y6, y7, y8, y9, y10, y11, y12, y13, y14, y15, y16, y17, y18, y19, y20, y21, y22, y23, y24, y25, y26, y27, y28, y29, y30, y31, y32, y33, y34, y35, y36, y37, y38, y39, y40, y41, y42, y43, y44, y45, y46, y47, y48, y49, y50, y51, y52, y53, y54, y55, y56, y57, y58, y59, y60, y61, y62, y63, y64, y65, y66, y67, y68, y69, y70, y71, y72, y73, y74, y75, y76, y77, y78, y79, y80, y81, y82, y83, y84, y85, y86, y87, y88, y89, y90, y91, y92, y93, y94, y95, y96, y97, y98, y99, y100, y101, y102, y103, y104, y105, y106, z107, z108, z109, z110, z111, z112, z113, z114, z115, z116, z117, z118, y119, y120, y121], []⟩ w := by
  conv => arg 2; arg 2; whnf
  conv => arg 4; dsimp only
  refine region_facts (by kernel_rfl) (fun σ => #[y0, y1, .pointer (some ⟨gs, 0, none⟩), y3, .pointer (some ⟨gt, 0, none⟩), y5, y6, y7, y8, y9, y10, y11, y12, y13, y14, y15, y16, y17, y18, y19, y20, y21, y22, y23, y24, y25, y26, y27, y28, y29, y30, y31, y32, y33, y34, y35, y36, y37, y38, y39, y40, y41, y42, y43, y44, y45, y46, y47, y48, y49, y50, y51, y52, y53, y54, y55, y56, y57, y58, y59, y60, y61, y62, y63, y64, y65, y66, y67, y68, y69, y70, y71, y72, y73, y74, y75, y76, y77, y78, y79, y80, y81, y82, y83, y84, y85, y86, y87, y88, y89, y90, y91, y92, y93, y94, y95, y96, y97, y98, y99, y100, y101, y102, y103, y104, y105, y106, σ 0, σ 1, σ 2, σ 3, σ 4, σ 5, σ 6, σ 7, σ 8, σ 10, σ 12, σ 14, y119, y120, y121]) (fun i => ([z107, z108, z109, z110, z111, z112, z113, z114, z115, undef, z116, undef, z117, undef, z118, undef] : List Value).getD i undef) rfl (fun i X W => match i with
    | 0 => X = .pointer (some ⟨gs, 5, none⟩)
    | 1 => X = (.slice q5 n5 c5)
    | 2 => X = .pointer (some ⟨gs, 6, none⟩)
    | 3 => X = (.slice q6 n6 c6)
    | 4 => X = .pointer (some ⟨gs, 7, none⟩)
    | 5 => X = (.slice q7 n7 c7)
    | 6 => X = .pointer (some ⟨gs, 8, none⟩)
    | 7 => X = (.slice q8 n8 c8)
    | 8 => X = .pointer (some ⟨gt, 5, none⟩)
    | 9 => W.cell? ⟨gt, 5, none⟩ = some (.slice q5 n5 c5)
    | 10 => X = .pointer (some ⟨gt, 6, none⟩)
    | 11 => W.cell? ⟨gt, 6, none⟩ = some (.slice q6 n6 c6)
    | 12 => X = .pointer (some ⟨gt, 7, none⟩)
    | 13 => W.cell? ⟨gt, 7, none⟩ = some (.slice q7 n7 c7)
    | 14 => X = .pointer (some ⟨gt, 8, none⟩)
    | 15 => W.cell? ⟨gt, 8, none⟩ = some (.slice q8 n8 c8)
    | _ => True) (fun A B => (A.cell? ⟨gt, 5, none⟩ = some (.slice q5 n5 c5) → B.cell? ⟨gt, 5, none⟩ = some (.slice q5 n5 c5)) ∧ (A.cell? ⟨gt, 6, none⟩ = some (.slice q6 n6 c6) → B.cell? ⟨gt, 6, none⟩ = some (.slice q6 n6 c6)) ∧ (A.cell? ⟨gt, 7, none⟩ = some (.slice q7 n7 c7) → B.cell? ⟨gt, 7, none⟩ = some (.slice q7 n7 c7)) ∧ (A.cell? ⟨gt, 8, none⟩ = some (.slice q8 n8 c8) → B.cell? ⟨gt, 8, none⟩ = some (.slice q8 n8 c8))) (fun W => Only gt w W ∧ ∃ a5 a6 a7 a8, Row W gt 28 [t0, t1, t2, t3, t4, a5, a6, a7, a8, t9]) ⟨⟨(Below.refl _ _).drew, fun _ _ => rfl, rfl⟩, t5, t6, t7, t8, hgt.out⟩ ?_ (by kernel_rfl) ?_ ?_
  · intro i X W W' HR H
    iterate 16 (obtain _ | i := i; first | exact H | exact HR.1 H | exact HR.2.1 H | exact HR.2.2.1 H | exact HR.2.2.2 H)
    exact H
  · refine ⟨?_, ?_, ?_, ?_, ?_, ?_, ?_, ?_, ?_, ?_, ?_, ?_, ?_, ?_, ?_, ?_, trivial⟩
    all_goals (intro σ W HJ hdep; simp [Region.binds] at hdep; have HJ := hid HJ; obtain ⟨gk0, gk1, gk2, gk3, gk4, gk5, gk6, gk7, gk8, gk9⟩ := (show Row W gs 28 [x0, x1, x2, x3, x4, (.slice q5 n5 c5), (.slice q6 n6 c6), (.slice q7 n7 c7), (.slice q8 n8 c8), x9] from (HJ.out.1.same _ hne).trans hgs.out).k10)
    · refine wpOp_plain rfl rfl ?_; go_simp; exact ⟨_, (by first | rfl | simp [updF, *]), ⟨id, id, id, id⟩, HJ.out, rfl⟩
    · refine wpOp_plain rfl rfl ?_; go_simp; exact ⟨_, (by first | rfl | simp [updF, *]), ⟨id, id, id, id⟩, HJ.out, rfl⟩
    · refine wpOp_plain rfl rfl ?_; go_simp; exact ⟨_, (by first | rfl | simp [updF, *]), ⟨id, id, id, id⟩, HJ.out, rfl⟩
    · refine wpOp_plain rfl rfl ?_; go_simp; exact ⟨_, (by first | rfl | simp [updF, *]), ⟨id, id, id, id⟩, HJ.out, rfl⟩
    · refine wpOp_plain rfl rfl ?_; go_simp; exact ⟨_, (by first | rfl | simp [updF, *]), ⟨id, id, id, id⟩, HJ.out, rfl⟩
    · refine wpOp_plain rfl rfl ?_; go_simp; exact ⟨_, (by first | rfl | simp [updF, *]), ⟨id, id, id, id⟩, HJ.out, rfl⟩
    · refine wpOp_plain rfl rfl ?_; go_simp; exact ⟨_, (by first | rfl | simp [updF, *]), ⟨id, id, id, id⟩, HJ.out, rfl⟩
    · refine wpOp_plain rfl rfl ?_; go_simp; exact ⟨_, (by first | rfl | simp [updF, *]), ⟨id, id, id, id⟩, HJ.out, rfl⟩
    · refine wpOp_plain rfl rfl ?_; go_simp; exact ⟨_, (by first | rfl | simp [updF, *]), ⟨id, id, id, id⟩, HJ.out, rfl⟩
    · obtain ⟨a5, a6, a7, a8, hr⟩ := HJ.out.2
      have kc := hr.cell 5
      have kz := hr.frozen 5
      simp at kc
      have HR := hid (show (fun A B => (A.cell? ⟨gt, 5, none⟩ = some (.slice q5 n5 c5) → B.cell? ⟨gt, 5, none⟩ = some (.slice q5 n5 c5)) ∧ (A.cell? ⟨gt, 6, none⟩ = some (.slice q6 n6 c6) → B.cell? ⟨gt, 6, none⟩ = some (.slice q6 n6 c6)) ∧ (A.cell? ⟨gt, 7, none⟩ = some (.slice q7 n7 c7) → B.cell? ⟨gt, 7, none⟩ = some (.slice q7 n7 c7)) ∧ (A.cell? ⟨gt, 8, none⟩ = some (.slice q8 n8 c8) → B.cell? ⟨gt, 8, none⟩ = some (.slice q8 n8 c8))) W (W.setCell ⟨gt, 5, none⟩ (.slice q5 n5 c5)) from ⟨fun h => ((hr.set 5 _).cell 5).trans rfl, fun h => ((hr.set 5 _).cell 6).trans ((hr.cell 6).symm.trans h), fun h => ((hr.set 5 _).cell 7).trans ((hr.cell 7).symm.trans h), fun h => ((hr.set 5 _).cell 8).trans ((hr.cell 8).symm.trans h)⟩)
      have HN := hid (show ∃ a5 a6 a7 a8, Row (W.setCell ⟨gt, 5, none⟩ (.slice q5 n5 c5)) gt 28 [t0, t1, t2, t3, t4, a5, a6, a7, a8, t9] from ⟨(.slice q5 n5 c5), a6, a7, a8, hr.set 5 _⟩)
      have HC := hid (show (W.setCell ⟨gt, 5, none⟩ (.slice q5 n5 c5)).cell? ⟨gt, 5, none⟩ = some (.slice q5 n5 c5) from (hr.set 5 _).cell 5)
      have HO := hid (HJ.out.1.cell 5 (.slice q5 n5 c5))
      clear hr
      refine wpOp_plain rfl rfl ?_
      go_simp
      exact ⟨undef, (by first | rfl | simp [updF, *]), HR.out, ⟨HO.out, HN.out⟩, HC.out⟩
    · refine wpOp_plain rfl rfl ?_; go_simp; exact ⟨_, (by first | rfl | simp [updF, *]), ⟨id, id, id, id⟩, HJ.out, rfl⟩
    · obtain ⟨a5, a6, a7, a8, hr⟩ := HJ.out.2
      have kc := hr.cell 6
      have kz := hr.frozen 6
      simp at kc
      have HR := hid (show (fun A B => (A.cell? ⟨gt, 5, none⟩ = some (.slice q5 n5 c5) → B.cell? ⟨gt, 5, none⟩ = some (.slice q5 n5 c5)) ∧ (A.cell? ⟨gt, 6, none⟩ = some (.slice q6 n6 c6) → B.cell? ⟨gt, 6, none⟩ = some (.slice q6 n6 c6)) ∧ (A.cell? ⟨gt, 7, none⟩ = some (.slice q7 n7 c7) → B.cell? ⟨gt, 7, none⟩ = some (.slice q7 n7 c7)) ∧ (A.cell? ⟨gt, 8, none⟩ = some (.slice q8 n8 c8) → B.cell? ⟨gt, 8, none⟩ = some (.slice q8 n8 c8))) W (W.setCell ⟨gt, 6, none⟩ (.slice q6 n6 c6)) from ⟨fun h => ((hr.set 6 _).cell 5).trans ((hr.cell 5).symm.trans h), fun h => ((hr.set 6 _).cell 6).trans rfl, fun h => ((hr.set 6 _).cell 7).trans ((hr.cell 7).symm.trans h), fun h => ((hr.set 6 _).cell 8).trans ((hr.cell 8).symm.trans h)⟩)
      have HN := hid (show ∃ a5 a6 a7 a8, Row (W.setCell ⟨gt, 6, none⟩ (.slice q6 n6 c6)) gt 28 [t0, t1, t2, t3, t4, a5, a6, a7, a8, t9] from ⟨a5, (.slice q6 n6 c6), a7, a8, hr.set 6 _⟩)
      have HC := hid (show (W.setCell ⟨gt, 6, none⟩ (.slice q6 n6 c6)).cell? ⟨gt, 6, none⟩ = some (.slice q6 n6 c6) from (hr.set 6 _).cell 6)
      have HO := hid (HJ.out.1.cell 6 (.slice q6 n6 c6))
      clear hr
      refine wpOp_plain rfl rfl ?_
      go_simp
      exact ⟨undef, (by first | rfl | simp [updF, *]), HR.out, ⟨HO.out, HN.out⟩, HC.out⟩
    · refine wpOp_plain rfl rfl ?_; go_simp; exact ⟨_, (by first | rfl | simp [updF, *]), ⟨id, id, id, id⟩, HJ.out, rfl⟩
    · obtain ⟨a5, a6, a7, a8, hr⟩ := HJ.out.2
      have kc := hr.cell 7
      have kz := hr.frozen 7
      simp at kc
      have HR := hid (show (fun A B => (A.cell? ⟨gt, 5, none⟩ = some (.slice q5 n5 c5) → B.cell? ⟨gt, 5, none⟩ = some (.slice q5 n5 c5)) ∧ (A.cell? ⟨gt, 6, none⟩ = some (.slice q6 n6 c6) → B.cell? ⟨gt, 6, none⟩ = some (.slice q6 n6 c6)) ∧ (A.cell? ⟨gt, 7, none⟩ = some (.slice q7 n7 c7) → B.cell? ⟨gt, 7, none⟩ = some (.slice q7 n7 c7)) ∧ (A.cell? ⟨gt, 8, none⟩ = some (.slice q8 n8 c8) → B.cell? ⟨gt, 8, none⟩ = some (.slice q8 n8 c8))) W (W.setCell ⟨gt, 7, none⟩ (.slice q7 n7 c7)) from ⟨fun h => ((hr.set 7 _).cell 5).trans ((hr.cell 5).symm.trans h), fun h => ((hr.set 7 _).cell 6).trans ((hr.cell 6).symm.trans h), fun h => ((hr.set 7 _).cell 7).trans rfl, fun h => ((hr.set 7 _).cell 8).trans ((hr.cell 8).symm.trans h)⟩)
      have HN := hid (show ∃ a5 a6 a7 a8, Row (W.setCell ⟨gt, 7, none⟩ (.slice q7 n7 c7)) gt 28 [t0, t1, t2, t3, t4, a5, a6, a7, a8, t9] from ⟨a5, a6, (.slice q7 n7 c7), a8, hr.set 7 _⟩)
      have HC := hid (show (W.setCell ⟨gt, 7, none⟩ (.slice q7 n7 c7)).cell? ⟨gt, 7, none⟩ = some (.slice q7 n7 c7) from (hr.set 7 _).cell 7)
      have HO := hid (HJ.out.1.cell 7 (.slice q7 n7 c7))
      clear hr
      refine wpOp_plain rfl rfl ?_
      go_simp
      exact ⟨undef, (by first | rfl | simp [updF, *]), HR.out, ⟨HO.out, HN.out⟩, HC.out⟩
    · refine wpOp_plain rfl rfl ?_; go_simp; exact ⟨_, (by first | rfl | simp [updF, *]), ⟨id, id, id, id⟩, HJ.out, rfl⟩
    · obtain ⟨a5, a6, a7, a8, hr⟩ := HJ.out.2
      have kc := hr.cell 8
      have kz := hr.frozen 8
      simp at kc
      have HR := hid (show (fun A B => (A.cell? ⟨gt, 5, none⟩ = some (.slice q5 n5 c5) → B.cell? ⟨gt, 5, none⟩ = some (.slice q5 n5 c5)) ∧ (A.cell? ⟨gt, 6, none⟩ = some (.slice q6 n6 c6) → B.cell? ⟨gt, 6, none⟩ = some (.slice q6 n6 c6)) ∧ (A.cell? ⟨gt, 7, none⟩ = some (.slice q7 n7 c7) → B.cell? ⟨gt, 7, none⟩ = some (.slice q7 n7 c7)) ∧ (A.cell? ⟨gt, 8, none⟩ = some (.slice q8 n8 c8) → B.cell? ⟨gt, 8, none⟩ = some (.slice q8 n8 c8))) W (W.setCell ⟨gt, 8, none⟩ (.slice q8 n8 c8)) from ⟨fun h => ((hr.set 8 _).cell 5).trans ((hr.cell 5).symm.trans h), fun h => ((hr.set 8 _).cell 6).trans ((hr.cell 6).symm.trans h), fun h => ((hr.set 8 _).cell 7).trans ((hr.cell 7).symm.trans h), fun h => ((hr.set 8 _).cell 8).trans rfl⟩)
      have HN := hid (show ∃ a5 a6 a7 a8, Row (W.setCell ⟨gt, 8, none⟩ (.slice q8 n8 c8)) gt 28 [t0, t1, t2, t3, t4, a5, a6, a7, a8, t9] from ⟨a5, a6, a7, (.slice q8 n8 c8), hr.set 8 _⟩)
      have HC := hid (show (W.setCell ⟨gt, 8, none⟩ (.slice q8 n8 c8)).cell? ⟨gt, 8, none⟩ = some (.slice q8 n8 c8) from (hr.set 8 _).cell 8)
      have HO := hid (HJ.out.1.cell 8 (.slice q8 n8 c8))
      clear hr
      refine wpOp_plain rfl rfl ?_
      go_simp
      exact ⟨undef, (by first | rfl | simp [updF, *]), HR.out, ⟨HO.out, HN.out⟩, HC.out⟩
  · intro σ W hj hg
    obtain ⟨O, a5, a6, a7, a8, hr⟩ := hj
    have g5 : W.cell? ⟨gt, 5, none⟩ = some (.slice q5 n5 c5) := hg 9 (by decide)
    have g6 : W.cell? ⟨gt, 6, none⟩ = some (.slice q6 n6 c6) := hg 11 (by decide)
    have g7 : W.cell? ⟨gt, 7, none⟩ = some (.slice q7 n7 c7) := hg 13 (by decide)
    have g8 : W.cell? ⟨gt, 8, none⟩ = some (.slice q8 n8 c8) := hg 15 (by decide)
    obtain ⟨-, -, -, -, -, k5, k6, k7, k8, -⟩ := hr.k10
    obtain rfl := Option.some.inj (k5.symm.trans g5)
    obtain rfl := Option.some.inj (k6.symm.trans g6)
    obtain rfl := Option.some.inj (k7.symm.trans g7)
    obtain rfl := Option.some.inj (k8.symm.trans g8)
    exact hQ.out σ W O hr
end Go.Proofs.YtclhcjiblfokaaaGreatDoor
namespace Go.Proofs.YtclhcjiblfokaaaGreatDoor
open Go.RowKit

theorem two_new {wa wb wc : World} {c1 c2 : List Value} {t1 t2 : TypeId} (O1 : Only wa.heap.size ((wa.alloc (.cells c1.toArray t1)).alloc (.cells c2.toArray t2)) wb) (O2 : Only (wa.heap.size + 1) wb wc) : Below wa.heap.size wa wc :=
  O2.down (O1.down (((Below.refl wa.heap.size wa).alloc (Nat.le_refl _) _).alloc (by simp) _) (Nat.le_refl _)) (by omega)
theorem outN_ok {s : St} {p : Pk} {last send : Int} (h : outN s p last send = 0) : wrongPk p = 0 ∧ s.sent.length < 50 ∧ send < 1000000000000 := by
  unfold outN at h
  split at h
  · rename_i h1; exact absurd h h1
  rename_i h1
  split at h
  · cases h
  split at h
  · cases h
  rename_i h3
  exact ⟨by simpa using h1, by omega, by omega⟩
theorem sendN_ok {s : St} {i : Int} {d : List (BitVec 8)} {tmo : Int} (h : sendN s i d tmo = 0) : cendL s i [3] = 0 ∧ outN s (sendPk s i d tmo) (lastH (folOf s i)) (chAt s i).send = 0 := by
  unfold sendN at h
  split at h
  · rename_i h1; exact absurd h h1
  · rename_i h1; exact ⟨by simpa using h1, h⟩
/-- what comes of sending -/
theorem sent_num {s : St} {i : Int} {d : List (BitVec 8)} {tmo : Int} (h : sendN s i d tmo = 0) (hf : s.fits) : ∃ (j : Nat) (c : Ch), i = (j : Int) ∧ s.chans[j]? = some c ∧ chAt s i = c ∧ (0 ≤ c.send ∧ c.send < 1000000000000) ∧ (sentS s (sendPk s i d tmo)).fits ∧ wrongS (sentS s (sendPk s i d tmo)) = 0 ∧ (sentS s (sendPk s i d tmo)).chans[j]? = some c.sent1 ∧ s.sent.length ≤ (sentS s (sendPk s i d tmo)).sent.length := by
  obtain ⟨hce, ho⟩ := sendN_ok h
  obtain ⟨hwp, hsl, hsn⟩ := outN_ok ho
  obtain ⟨j, k, m, c, cn, f, hij, hj, hca, -, -, -, -, -, hwc, -⟩ := cendL_fol hce
  obtain ⟨hw, -⟩ := cendL_ok hce
  have hpo := wrongPk_ok hwp
  rw [hca] at hsn
  have hco := wrongCh_ok hwc
  have hpt := wrongS_parts hw
  have hlg := withM_len s.sent ⟨i, c.send, digPk (sendPk s i d tmo)⟩ (marksN_ok hpt.1).2
  have e : sentS s (sendPk s i d tmo) = { s with chans := s.chans.set j c.sent1, sent := withM s.sent ⟨i, c.send, digPk (sendPk s i d tmo)⟩, got := s.got, acks := s.acks } := by
    have e1 : (sendPk s i d tmo).src = i := rfl
    have e2 : (sendPk s i d tmo).seq = c.send := by show (chAt s i).send = _; rw [hca]
    unfold sentS setCh
    rw [e1, e2, hca, hij]
    rfl
  have hcc : wrongCh c.sent1 = 0 := wrongCh_of hco.1 hco.2.1 hco.2.2.1 (by simp only [Ch.sent1]; omega)
  obtain ⟨g1, g2⟩ := set_right (j := j) hw hcc
  have hsq : (sendPk s i d tmo).seq = c.send := by show (chAt s i).send = _; rw [hca]
  have hS : marksN (withM s.sent ⟨i, c.send, digPk (sendPk s i d tmo)⟩) = 0 ∧ (withM s.sent ⟨i, c.send, digPk (sendPk s i d tmo)⟩).length ≤ 50 := ⟨withM_right hpt.1 (wrongMk_of hpo.1 (by have := hpo.2.2.1; rw [hsq] at this; exact this) (sha_length _)), by omega⟩
  refine ⟨j, c, hij, hj, hca, ⟨by omega, hsn⟩, ?_, ?_, ?_, ?_⟩
  · rw [e]; exact fits_all hf g1 hS ⟨hpt.2.1, hpt.2.2.2.2.2.1⟩ ⟨hpt.2.2.1, hpt.2.2.2.2.2.2⟩
  · rw [e]; exact wrongS_all hw g1 g2 hS ⟨hpt.2.1, hpt.2.2.2.2.2.1⟩ ⟨hpt.2.2.1, hpt.2.2.2.2.2.2⟩
  · rw [e]; exact chAt_set hj
  · rw [e]; exact hlg.1
end Go.Proofs.YtclhcjiblfokaaaGreatDoor
namespace Go.Proofs.YtclhcjiblfokaaaGreatDoor
open Go.RowKit

/-- marks of other channels stand there still -/
def MOther (a b : List Mk) (own : Int) : Prop := ∀ m ∈ a, m.chan ≠ own → hasM b m.chan m.seq = some m
theorem MOther.refl {a : List Mk} (h : SortM a) (own : Int) : MOther a a own := fun _ hm _ => find_of_mem h hm
theorem MOther.put {a : List Mk} (h : SortM a) (x : Mk) : MOther a (withM a x) x.chan := fun _ hm hne => withM_other h hm (fun e => hne e.1)
theorem MOther.gone {a : List Mk} (h : SortM a) (ch seq : Int) : MOther a (withoutM a ch seq) ch := fun _ hm hne => withoutM_other h hm (fun e => hne e.1)
/-- a state like another one but for one channel, and its marks -/
structure ApartS (s : St) (own : Int) (t : St) : Prop where
  right : wrongS t = 0
  fit : t.fits
  len : t.chans.length = s.chans.length
  chans : ∀ k : Nat, (k : Int) ≠ own → t.chans[k]? = s.chans[k]?
  sent : MOther s.sent t.sent own
  got : MOther s.got t.got own
  acks : MOther s.acks t.acks own
  rest : ({ t with chans := s.chans, sent := s.sent, got := s.got, acks := s.acks } : St) = s
theorem sorts {s : St} (h : wrongS s = 0) : SortM s.sent ∧ SortM s.got ∧ SortM s.acks := by
  have hp := wrongS_parts h
  exact ⟨(marksN_ok hp.1).2, (marksN_ok hp.2.1).2, (marksN_ok hp.2.2.1).2⟩
theorem set_apart (l : List Ch) (i : Int) (hi : 0 ≤ i) (c : Ch) : ∀ k : Nat, (k : Int) ≠ i → (l.set i.toNat c)[k]? = l[k]? := fun k hk => List.getElem?_set_ne (by omega)
theorem apart_sent {s : St} {i : Int} {d : List (BitVec 8)} {tmo : Int} (h : sendN s i d tmo = 0) (hf : s.fits) : ApartS s i (sentS s (sendPk s i d tmo)) := by
  obtain ⟨j, c, hij, hj, hca, -, hft, hw, -, -⟩ := sent_num h hf
  obtain ⟨hce, -⟩ := sendN_ok h
  obtain ⟨h1, h2, h3⟩ := sorts (cendL_ok hce).1
  refine ⟨hw, hft, ?_, ?_, MOther.put h1 _, MOther.refl h2 _, MOther.refl h3 _, rfl⟩
  · simp [sentS, setCh]
  · exact set_apart _ _ (by show 0 ≤ i; omega) _
theorem apart_got {s : St} {p : Pk} {ack : List (BitVec 8)} (hr : rcvrN s p ack.length = 0) (hf : s.fits) : ApartS s p.dst (gotS s p ack) := by
  obtain ⟨hw, hft, -⟩ := got_right hr hf
  obtain ⟨hwp, hce, -⟩ := rcvrN_ok' hr
  have hpo := wrongPk_ok hwp
  obtain ⟨h1, h2, h3⟩ := sorts (cendL_ok hce).1
  cases ho : (chAt s p.dst).ordered with
  | true =>
    have e : gotS s p ack = { s with chans := s.chans.set p.dst.toNat (chAt s p.dst).recv1, acks := withM s.acks ⟨p.dst, p.seq, sha ack⟩ } := by
      unfold gotS setCh
      rw [if_pos ho]
    rw [e] at hw hft ⊢
    exact ⟨hw, hft, by simp, set_apart _ _ (by omega) _, MOther.refl h1 _, MOther.refl h2 _, MOther.put h3 ⟨p.dst, p.seq, sha ack⟩, rfl⟩
  | false =>
    have e : gotS s p ack = { s with got := withM s.got ⟨p.dst, p.seq, digPk p⟩, acks := withM s.acks ⟨p.dst, p.seq, sha ack⟩ } := by
      unfold gotS
      rw [if_neg (by simp [ho])]
    rw [e] at hw hft ⊢
    exact ⟨hw, hft, rfl, fun _ _ => rfl, MOther.refl h1 _, MOther.put h2 ⟨p.dst, p.seq, digPk p⟩, MOther.put h3 ⟨p.dst, p.seq, sha ack⟩, rfl⟩
theorem apart_gone {s : St} {p : Pk} {c : Ch} (hr : sndrN s p = 0) (hw : wrongS (goneS s p c) = 0) (hft : (goneS s p c).fits) : ApartS s p.src (goneS s p c) := by
  obtain ⟨hwp, hce, -⟩ := sndrN_ok' hr
  have hpo := wrongPk_ok hwp
  obtain ⟨h1, h2, h3⟩ := sorts (cendL_ok hce).1
  cases ho : (chAt s p.src).ordered with
  | true =>
    have e : goneS s p c = { s with chans := s.chans.set p.src.toNat c, sent := withoutM s.sent p.src p.seq } := by
      unfold goneS setCh
      rw [if_pos ho]
    rw [e] at hw hft ⊢
    exact ⟨hw, hft, by simp, set_apart _ _ (by omega) _, MOther.gone h1 _ _, MOther.refl h2 _, MOther.refl h3 _, rfl⟩
  | false =>
    have e : goneS s p c = { s with sent := withoutM s.sent p.src p.seq } := by
      unfold goneS
      rw [if_neg (by simp [ho])]
    rw [e] at hw hft ⊢
    exact ⟨hw, hft, rfl, fun _ _ => rfl, MOther.gone h1 _ _, MOther.refl h2 _, MOther.refl h3 _, rfl⟩
end Go.Proofs.YtclhcjiblfokaaaGreatDoor
namespace Go.Proofs.YtclhcjiblfokaaaGreatDoor
open Go.RowKit

theorem Many.mark {w : World} {N k n cap : Nat} {oa : Option Addr} {l : List Mk} {x : Mk} (h : Many MkR 3 w N (.slice oa n cap) l) (hn : n = l.length) (hx : l[k]? = some x) : ∃ b f od cd, oa = some ⟨b, f, none⟩ ∧ b < N ∧ w.cell? ⟨b, f + k * 3, none⟩ = some (.int .i64 x.chan) ∧ w.cell? ⟨b, f + k * 3 + 1, none⟩ = some (.int .i64 x.seq) ∧ w.cell? ⟨b, f + k * 3 + 2, none⟩ = some (.slice od x.dig.length cd) ∧ Bytes w N (.slice od x.dig.length cd) x.dig := by
  have hk := (List.getElem?_eq_some_iff.1 hx).1
  obtain ⟨b, f, rfl, hc⟩ := h.spot (by omega)
  obtain ⟨hb, r, ⟨v, rfl, hv⟩, hcc⟩ := hc k x hx
  obtain ⟨od, cd, rfl, -⟩ := hv.shape
  exact ⟨b, f, od, cd, rfl, hb, hcc 0 _ rfl, hcc 1 _ rfl, hcc 2 _ rfl, hv⟩
/-- what is found of a mark -/
def HasV (w : World) (N : Nat) (dv : Value) (o : Option Mk) : Prop := (∃ m, o = some m ∧ Bytes w N dv m.dig) ∨ (o = none ∧ dv = .slice none 0 0)
theorem hasM_drop {l : List Mk} {ch seq : Int} {k : Nat} {x : Mk} (hx : l[k]? = some x) : hasM (l.drop k) ch seq = if mkIs ch seq x = true then some x else hasM (l.drop (k + 1)) ch seq := by
  have hk := List.getElem?_eq_some_iff.1 hx
  rw [List.drop_eq_getElem_cons hk.1, hk.2]
  unfold hasM
  cases h : mkIs ch seq x with
  | true => rw [List.find?_cons_of_pos h, if_pos rfl]
  | false => rw [List.find?_cons_of_neg (by simp [h]), if_neg (by simp)]
set_option maxRecDepth 100000 in
set_option maxHeartbeats 4000000 in
theorem has_any (l : List Mk) (ch seq : Int) (sv : Value) (N : Nat) (w : World) (hN : N ≤ w.heap.size) (hl : Many MkR 3 w N sv l) (hlen : l.length < 2305843009213693952) :
    Calls Tryz.prog 22 #[sv, .int .i64 ch, .int .i64 seq] w fun e w' => Below w.heap.size w w' ∧ ∃ dv, e = .returned (.tuple #[dv, .bool (hasM l ch seq).isSome]) ∧ HasV w N dv (hasM l ch seq) := by
  obtain ⟨oa, ca, rfl, -⟩ := hl.shape
  have HV := hid hl
  clear hl
  generalize hn : l.length = n at *
  have HN := hid hn
  clear hn
  go_enter Tryz.func22, Tryz.ntmps22
  go_wp2_with fail
  go_loopw [12] (fun i wr => ∃ k : Nat, k ≤ n ∧ i = .int .i64 (k : Int) ∧ Hid (Below w.heap.size w wr ∧ hasM l ch seq = hasM (l.drop k) ch seq)) (fun i _ => n - (intOf i).toNat)
  case atStart => exact ⟨0, by omega, rfl, hid ⟨Below.refl _ _, rfl⟩⟩
  case round =>
    obtain ⟨k, hk, rfl, HT⟩ := hrel
    have HBW := hid HT.out.1
    have HUP := hid HT.out.2
    clear HT
    by_cases hlt : k < n
    · obtain ⟨x, hx⟩ : ∃ x, l[k]? = some x := ⟨l[k]'(by rw [HN.out]; exact hlt), List.getElem?_eq_getElem _⟩
      obtain ⟨b, f, od, cd, rfl, hb, f0, f1, f2, hdg⟩ := HV.out.mark HN.out.symm hx
      have hbl : b < w.heap.size := by omega
      have hlt' : (k : Int) < (n : Int) := by omega
      replace f0 := (HBW.out.cell hbl).trans f0
      replace f1 := (HBW.out.cell hbl).trans f1
      replace f2 := (HBW.out.cell hbl).trans f2
      have HST := hid (hasM_drop (ch := ch) (seq := seq) hx)
      have HDG := hid hdg
      have HB2 := hid (HBW.out.alloc HBW.out.size (.cells #[.int .i64 x.chan, .int .i64 x.seq, .slice od x.dig.length cd] 59))
      clear hx hdg
      cases h1 : (x.chan == ch) with
      | false =>
        have HNO := hid (show hasM l ch seq = hasM (l.drop (k + 1)) ch seq by rw [HUP.out, HST.out, if_neg]; simp at h1; simp [mkIs, h1])
        go_wp2
        go_roundw
        case rel => exact ⟨k + 1, by omega, by go_num, hid ⟨HB2.out, HNO.out⟩⟩
        case measure => simp [intOf]; omega
      | true =>
        cases h2 : (x.seq == seq) with
        | false =>
          have HNO := hid (show hasM l ch seq = hasM (l.drop (k + 1)) ch seq by rw [HUP.out, HST.out, if_neg]; simp at h2; simp [mkIs, h2])
          go_wp2
          go_roundw
          case rel => exact ⟨k + 1, by omega, by go_num, hid ⟨HB2.out, HNO.out⟩⟩
          case measure => simp [intOf]; omega
        | true =>
          have HNO := hid (show hasM l ch seq = some x by rw [HUP.out, HST.out, if_pos]; simp at h1 h2; simp [mkIs, h1, h2])
          go_wp2
          go_ret2
          exact ⟨HB2.out, _, by rw [HNO.out]; rfl, .inl ⟨x, HNO.out, HDG.out⟩⟩
    · have hge : decide ((k : Int) < (n : Int)) = false := by simp; omega
      have HNO := hid (show hasM l ch seq = none by rw [HUP.out, List.drop_eq_nil_of_le (by rw [HN.out]; omega)]; rfl)
      go_wp2
      go_ret2
      exact ⟨HBW.out, _, by rw [HNO.out]; rfl, .inr ⟨HNO.out, rfl⟩⟩
end Go.Proofs.YtclhcjiblfokaaaGreatDoor
namespace Go.Proofs.YtclhcjiblfokaaaGreatDoor
open Go.RowKit

/-- two lists of marks, and where they stand -/
def PairAt (w : World) (N : Nat) (own : Int) (W : World) (g k : Nat) : Prop := ∃ oa ca ob cb la lb, W.cell? ⟨g, k * 2, none⟩ = some (.slice oa (List.length la) ca) ∧ W.cell? ⟨g, k * 2 + 1, none⟩ = some (.slice ob (List.length lb) cb) ∧ Many MkR 3 w N (.slice oa (List.length la) ca) la ∧ Many MkR 3 w w.heap.size (.slice ob (List.length lb) cb) lb ∧ MOther la lb own ∧ la.length < 2305843009213693952 ∧ lb.length < 2305843009213693952
set_option maxRecDepth 100000 in
set_option maxHeartbeats 16000000 in
theorem apart_any (s t : St) (own n : Int) (tv : Value) (gs go N : Nat) {o1 o2 o3 o4 o5 o6 o7 : Option Addr} {c1 c2 c3 c4 c5 c6 c7 : Nat} (w : World) (hN : N ≤ w.heap.size) (hgs : Row w gs 28 [.string s.name, .int .i64 s.height, .int .i64 s.time, .slice o1 s.clients.length c1, .slice o2 s.conns.length c2, .slice o3 s.chans.length c3, .slice o4 s.sent.length c4, .slice o5 s.got.length c5, .slice o6 s.acks.length c6, .slice o7 s.purses.length c7]) (hgo : Row w go 3 [.int .i64 own]) (hm : StMem w N s (.slice o1 s.clients.length c1) (.slice o2 s.conns.length c2) (.slice o3 s.chans.length c3) (.slice o4 s.sent.length c4) (.slice o5 s.got.length c5) (.slice o6 s.acks.length c6) (.slice o7 s.purses.length c7)) (hf : s.fits) (htv : StV w w.heap.size tv t) (h0 : n = 0 → ApartS s own t) :
    Calls Tryz.prog 20 #[tv, .int .i64 n, .pointer (some ⟨gs, 0, none⟩), .pointer (some ⟨go, 0, none⟩)] w fun e w' => e = .returned (.bool true) ∧ Below w.heap.size w w' := by
  obtain ⟨p1, d1, p2, d2, p3, d3, p4, d4, p5, d5, p6, d6, p7, d7, rfl, hmt⟩ := htv.open
  have HGS := hid hgs
  have HGO := hid hgo
  have HM := hid hm
  have HT := hid hmt
  have HTV := hid htv
  have HF := hid hf
  have H0 := hid h0
  clear hgs hgo hm hmt htv hf h0
  go_enter Tryz.func20, Tryz.ntmps20
  go_upto_region 1 with fail
  refine fbox1 ?_
  intro w0 F0 hs0
  clear hs0
  by_cases hz : n = 0
  · have HA := hid (H0.out hz)
    subst hz
    go_wp2_with (refine F0.load 0 rfl rfl rfl rfl structState ?_)
    refine (stWrongC t _ w0.heap.size w0 ((HTV.out.below F0.b).mono F0.b.size) (Nat.le_refl _) HA.out.fit).mono ?_
    rintro e w1 ⟨rfl, hb1⟩
    rw [HA.out.right]
    have F1 := F0.go hb1
    have hl : ((t.chans.length : Int) != (s.chans.length : Int)) = false := by rw [HA.out.len]; simp
    have k5 := F1.r0.k10.2.2.2.2.2.1
    have m5 := (HGS.out.below F1.b HGS.out.lt).k10.2.2.2.2.2.1
    clear hb1 F0
    go_wp2_with fail
    clear k5 m5 hl
    have hcl : s.chans.length < 2305843009213693952 := HF.out.2.2.2.1
    go_loopw [31] (fun i wr => ∃ k : Nat, k ≤ s.chans.length ∧ i = .int .i64 (k : Int) ∧ Hid (Below w1.heap.size w1 wr)) (fun i _ => s.chans.length - (intOf i).toNat)
    case atStart => exact ⟨0, by omega, rfl, hid (Below.refl _ _)⟩
    case round =>
      obtain ⟨k, hk, rfl, HBW⟩ := hrel
      have FW := F1.go HBW.out
      by_cases hlt : k < s.chans.length
      · obtain ⟨x, hx⟩ : ∃ x, s.chans[k]? = some x := ⟨_, List.getElem?_eq_getElem hlt⟩
        have hltI : (k : Int) < (s.chans.length : Int) := by omega
        go_upto_region 8 with fail
        cases ho : ((k : Int) != own) with
        | false =>
          refine plR8a (hid (HGO.out.below FW.b HGO.out.lt)) ho _ (hid ?_)
          intro σ w2 hb2 e2
          have HB2 := hid (HBW.out.trans (hb2.mono HBW.out.size))
          rw [e2]
          clear e2 hb2 ho hx FW
          go_wp2
          go_roundw
          case rel => exact ⟨k + 1, by omega, by go_num, HB2⟩
          case measure => simp [intOf]; omega
        | true =>
          have hx2 : t.chans[k]? = some x := by rw [HA.out.chans k (by simpa using ho)]; exact hx
          obtain ⟨b, f, hob, hb, x0, x1, x2, x3, x4, x5, x6⟩ := HM.out.chans.chan rfl hx
          obtain ⟨b2, f2, hob2, hb2, y0, y1, y2, y3, y4, y5, y6⟩ := HT.out.chans.chan rfl hx2
          subst hob hob2
          have hbl : b < w.heap.size := by omega
          have hsz := FW.b.size
          have hlt2 : (k : Int) < (t.chans.length : Int) := by rw [HA.out.len]; exact hltI
          have cx := hid (And.intro ((FW.b.cell hbl).trans x0) (And.intro ((FW.b.cell hbl).trans x1) (And.intro ((FW.b.cell hbl).trans x2) (And.intro ((FW.b.cell hbl).trans x3) (And.intro ((FW.b.cell hbl).trans x4) (And.intro ((FW.b.cell hbl).trans x5) ((FW.b.cell hbl).trans x6)))))))
          have cy := hid (And.intro ((FW.b.cell hb2).trans y0) (And.intro ((FW.b.cell hb2).trans y1) (And.intro ((FW.b.cell hb2).trans y2) (And.intro ((FW.b.cell hb2).trans y3) (And.intro ((FW.b.cell hb2).trans y4) (And.intro ((FW.b.cell hb2).trans y5) ((FW.b.cell hb2).trans y6)))))))
          refine plR8b (hid (HGO.out.below FW.b HGO.out.lt)) (hid (HGS.out.below FW.b HGS.out.lt)) (hid FW.r0) hltI (by omega) cx hlt2 (by omega) cy ho _ (hid ?_)
          intro σ w2 hb2 e2
          have HB2 := hid (HBW.out.trans (hb2.mono HBW.out.size))
          rw [e2]
          clear e2 hb2 ho hx hx2 FW x0 x1 x2 x3 x4 x5 x6 y0 y1 y2 y3 y4 y5 y6 cx cy hsz hlt2
          go_wp2
          go_roundw
          case rel => exact ⟨k + 1, by omega, by go_num, HB2⟩
          case measure => simp [intOf]; omega
      · have hge : decide ((k : Int) < (s.chans.length : Int)) = false := by simp; omega
        obtain ⟨-, -, -, -, -, -, k6, k7, k8, -⟩ := FW.r0.k10
        obtain ⟨-, -, -, -, -, -, m6, m7, m8, -⟩ := (HGS.out.below FW.b HGS.out.lt).k10
        go_wp2_with fail
        refine FW.box ?_
        intro wl FL hsl hbl
        clear k6 k7 k8 m6 m7 m8 hge hlt hk HBW hsl hbl
        have HL := hid (show ∀ j, j < 3 → PairAt w N own wl wr.heap.size j from fun j hj => by
          have hr := FL.r1
          obtain ⟨q0, q1, q2, q3, q4, q5⟩ := hr.k6
          have hfs := HF.out
          have hft := HA.out.fit
          obtain rfl | rfl | rfl : j = 0 ∨ j = 1 ∨ j = 2 := by omega
          · exact ⟨_, _, _, _, s.sent, t.sent, q0, q1, HM.out.sent, HT.out.sent, HA.out.sent, hfs.2.2.2.2.1.1, hft.2.2.2.2.1.1⟩
          · exact ⟨_, _, _, _, s.got, t.got, q2, q3, HM.out.got, HT.out.got, HA.out.got, hfs.2.2.2.2.2.1.1, hft.2.2.2.2.2.1.1⟩
          · exact ⟨_, _, _, _, s.acks, t.acks, q4, q5, HM.out.acks, HT.out.acks, HA.out.acks, hfs.2.2.2.2.2.2.1.1, hft.2.2.2.2.2.2.1.1⟩)
        go_loopw [68] (fun i wr => ∃ k : Nat, k ≤ 3 ∧ i = .int .i64 (k : Int) ∧ Hid (Below wl.heap.size wl wr)) (fun i _ => 3 - (intOf i).toNat)
        case atStart => exact ⟨0, by omega, rfl, hid (Below.refl _ _)⟩
        case round =>
          obtain ⟨k, hk, rfl, HBW⟩ := hrel
          rename_i wr2
          have FW := FL.go HBW.out
          by_cases hlt : k < 3
          · obtain ⟨oa, ca, ob, cb, la, lb, ka, kb, hla, hlb, hmo, hna, hnb⟩ := HL.out k hlt
            have hlg := FL.r1.lt
            replace ka := (HBW.out.cell hlg).trans ka
            replace kb := (HBW.out.cell hlg).trans kb
            have hltI : (k : Int) < 3 := by omega
            have HLA := hid hla
            have HLB := hid hlb
            have HMO := hid hmo
            have HNA := hid hna
            have HNB := hid hnb
            clear hla hlb hmo hna hnb hlg
            go_upto_region 14 with fail
            refine FW.box ?_
            intro w3 F3 hs3 hb3
            have HB3 := hid (HBW.out.trans (hb3.mono HBW.out.size))
            clear ka kb hs3 hb3 FW
            obtain ⟨g0, g1⟩ := F3.r2.k2
            go_wp2_with fail
            clear g0 g1
            have hnaN := HNA.out
            go_loopw [75] (fun i wr => ∃ k2 : Nat, k2 ≤ la.length ∧ i = .int .i64 (k2 : Int) ∧ Hid (Below w3.heap.size w3 wr)) (fun i _ => la.length - (intOf i).toNat)
            case atStart => exact ⟨0, by omega, rfl, hid (Below.refl _ _)⟩
            case round =>
              obtain ⟨k2, hk2, rfl, HBX⟩ := hrel
              rename_i wr3
              have FX := F3.go HBX.out
              by_cases hlt2 : k2 < la.length
              · obtain ⟨x, hx⟩ : ∃ x, la[k2]? = some x := ⟨_, List.getElem?_eq_getElem hlt2⟩
                obtain ⟨b, f, od, cd, hob, hb, f0, f1, f2, hdg⟩ := HLA.out.mark rfl hx
                subst hob
                have hbl : b < w.heap.size := by omega
                have hlt2I : (k2 : Int) < (la.length : Int) := by omega
                replace f0 := (FX.b.cell hbl).trans f0
                replace f1 := (FX.b.cell hbl).trans f1
                replace f2 := (FX.b.cell hbl).trans f2
                have HX := hid (fun h => HMO.out x (List.mem_of_getElem? hx) h)
                have HDG := hid hdg
                clear hx hdg
                go_upto_region 17 with fail
                refine FX.box ?_
                intro w4 F4 hs4 hb4
                have HB4 := hid (HBX.out.trans (hb4.mono HBX.out.size))
                clear f0 f1 f2 hs4 hb4 FX
                have g1 := F4.r2.k2.2
                obtain ⟨r0, r1, r2⟩ := F4.r3.k3
                go_wp2_with fail
                refine (has_any lb x.chan x.seq _ w.heap.size w4 F4.b.size (HLB.out.below MkR.stays F4.b) HNB.out).mono ?_
                rintro e w5 ⟨hb5, dv, rfl, hhas⟩
                have F5 := F4.go hb5
                have HB5 := hid (HB4.out.trans (hb5.mono HB4.out.size))
                have HHAS := hid hhas
                have gown := (HGO.out.below F5.b HGO.out.lt).k1
                clear g1 r0 r1 r2 hhas
                obtain ⟨r0, r1, r2⟩ := F5.r3.k3
                cases ho : (x.chan != own) with
                | false =>
                  go_wp2
                  go_roundw
                  case rel => exact ⟨k2 + 1, by omega, by go_num, HB5⟩
                  case measure => simp [intOf]; omega
                | true =>
                  have he := HX.out (by simpa using ho)
                  have hdv : Bytes w4 w.heap.size dv x.dig := by
                    rcases HHAS.out with ⟨m, e1, h⟩ | ⟨e1, -⟩
                    · rw [he] at e1; cases e1; exact h
                    · rw [he] at e1; cases e1
                  have q1 := conv_str (hdv.below (hb5.mono F4.b.size))
                  have q2 := conv_str ((HDG.out.mono hN).below F5.b)
                  rw [he]
                  clear he hdv hb5
                  go_wp2
                  go_roundw
                  case rel => exact ⟨k2 + 1, by omega, by go_num, HB5⟩
                  case measure => simp [intOf]; omega
              · have hge : decide ((k2 : Int) < (la.length : Int)) = false := by simp; omega
                have HBZ := hid (HB3.out.trans (HBX.out.mono HB3.out.size))
                go_wp2
                go_roundw
                case rel => exact ⟨k + 1, by omega, by go_num, HBZ⟩
                case measure => simp [intOf]; omega
          · have hge : decide ((k : Int) < 3) = false := by simp; omega
            go_upto_region 22 with fail
            refine plR22 (by have := HGS.out.lt; omega) (hid (HGS.out.below FW.b HGS.out.lt)) (hid FW.r0) _ (hid ?_)
            intro σ w6 O6 hr6
            have hb6 : Below w.heap.size w w6 := O6.down FW.b (Nat.le_refl _)
            have HG6 := hid (HGS.out.below hb6 HGS.out.lt)
            have HR6 := hid hr6
            have hT : StV w6 w6.heap.size (.agg #[.string t.name, .int .i64 t.height, .int .i64 t.time, .slice p1 t.clients.length d1, .slice p2 t.conns.length d2, .slice o3 s.chans.length c3, .slice o4 s.sent.length c4, .slice o5 s.got.length c5, .slice o6 s.acks.length c6, .slice p7 t.purses.length d7]) ({ t with chans := s.chans, sent := s.sent, got := s.got, acks := s.acks } : St) := by
              have ht := (HT.out.below hb6).mono hb6.size
              have hs := (HM.out.below (hb6.mono hN)).mono (Nat.le_trans hN hb6.size)
              exact ⟨_, _, _, _, _, _, _, rfl, ⟨ht.clients, ht.conns, hs.chans, hs.sent, hs.got, hs.acks, ht.purses⟩⟩
            rw [HA.out.rest] at hT
            have HSA := hid (sameS_eq s _ _ w6.heap.size w6 (Nat.le_refl _) ⟨_, _, _, _, _, _, _, rfl, (HM.out.below (hb6.mono hN)).mono (Nat.le_trans hN hb6.size)⟩ hT HF.out)
            have HB6 := hid hb6
            clear hT hb6 O6 hr6 FW HBW hge hlt hk
            go_wp2_with (first | refine Row.loadL HG6.out rfl rfl rfl structState ?_ | refine Row.loadL HR6.out rfl rfl rfl structState ?_)
            refine HSA.out.mono ?_
            rintro e w7 ⟨rfl, hb7⟩
            have HB7 := hid (HB6.out.trans (hb7.mono HB6.out.size))
            clear hb7
            go_wp2
            go_ret
            exact ⟨rfl, HB7.out⟩
  · have e0 : (n != 0) = true := by simpa using hz
    go_wp2
    go_ret
    exact ⟨rfl, F0.b⟩
end Go.Proofs.YtclhcjiblfokaaaGreatDoor
