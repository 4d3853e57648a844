/-
  What the regions of HeaderTells leave, in whatever order their steps come.
-/
import Derived.Test.YtfpngilmdgeikaaDoorHdTells1
namespace Go.Proofs.YtfpngilmdgeikaaDoor
open Go.RowKit

set_option maxRecDepth 100000 in
set_option maxHeartbeats 4000000 in
theorem tellsRegion9cv {y1 y2 y3 y5 y7 y9 y11 y12 y13 y14 y15 y16 y17 y18 y19 y20 y21 y22 y23 y24 y25 y26 y27 y28 y29 y30 y31 y32 y33 y34 y35 y36 y37 y38 y39 y40 y41 y42 y43 y44 y45 y46 y47 y48 y49 y50 y51 y52 y53 y54 y55 y56 y57 y58 y59 y60 y61 y62 y63 y64 y65 y66 y67 y68 y69 y70 y71 y72 y73 y74 y75 y76 y77 y78 y79 y80 z10 z81 z82 z83 z84 z85 z86 z87 z88 z89 z90 z91 z92 z93 z94 z95 z96 z97 : Value} {g gs N : Nat} (l t : List Vl) (h : Hd) (s : Sg) (lv tv : Value) (o1 o2 o3 p1 p2 p3 p4 p5 : Option Addr) (c1 c2 c3 d1 d2 d3 d4 d5 : Nat) {w : World} (htab : Hid (tableAt w)) (hN : N ≤ w.heap.size) (_hr : Hid (Row w g 25 [.string h.chain, .int .i64 h.height, .int .i64 h.time, .slice o1 h.root.length c1, .slice o2 h.vals.length c2, .slice o3 h.next.length c3])) (hrs : Hid (Row w gs 29 [.string s.hd.chain, .int .i64 s.hd.height, .int .i64 s.hd.time, .slice p1 s.hd.root.length d1, .slice p2 s.hd.vals.length d2, .slice p3 s.hd.next.length d3, .slice p4 s.vals.length d4, .slice p5 s.votes.length d5])) (_hl : Hid (Vals w N lv l)) (_hlen : l.length < 2305843009213693952) (_hok : Hid (∀ v ∈ l, v.ok)) (_hv : Hid (HdV w N (.agg #[.string h.chain, .int .i64 h.height, .int .i64 h.time, .slice o1 h.root.length c1, .slice o2 h.vals.length c2, .slice o3 h.next.length c3]) h)) (_hf : h.fits) (hs : Hid (SgV w N (.agg #[.string s.hd.chain, .int .i64 s.hd.height, .int .i64 s.hd.time, .slice p1 s.hd.root.length d1, .slice p2 s.hd.vals.length d2, .slice p3 s.hd.next.length d3, .slice p4 s.vals.length d4, .slice p5 s.votes.length d5]) s)) (hsf : s.fits) (ht : Hid (Vals w N tv t)) (htlen : t.length < 2305843009213693952) (hcb : (checkN s != 0) = false) (hvb : (valsN t != 0) = false) (htv : Hid (valsN t = 0)) (htok : Hid (∀ v ∈ t, v.ok)) (hsv : Hid (valsN s.vals = 0)) (hsl : Hid (s.votes.length = s.vals.length)) (Q : Exit → Act → World → Prop)
    (hQ : Hid (∀ (σ : Nat → Value) (w' : World), Below w.heap.size w w' → /-17-/ σ 17 = .bool true → Q .normal ⟨#[lv, y1, y2, y3, tv, y5, .pointer (some ⟨g, 0, none⟩), y7, .pointer (some ⟨gs, 0, none⟩), y9, σ 17, y11, y12, y13, y14, y15, y16, y17, y18, y19, y20, y21, y22, y23, y24, y25, y26, y27, y28, y29, y30, y31, y32, y33, y34, y35, y36, y37, y38, y39, y40, y41, y42, y43, y44, y45, y46, y47, y48, y49, y50, y51, y52, y53, y54, y55, y56, y57, y58, y59, y60, y61, y62, y63, y64, y65, y66, y67, y68, y69, y70, y71, y72, y73, y74, y75, y76, y77, y78, y79, y80, σ 0, σ 1, σ 2, σ 3, σ 4, σ 5, σ 6, σ 7, σ 8, σ 9, σ 10, σ 11, σ 12, σ 13, σ 14, σ 15, σ 16], []⟩ w')) :
    Code.wp Tryd.prog (.region 9 ((Tryd.f3.body.bind (regOf 9)).getD #[]) true) Q ⟨#[lv, y1, y2, y3, tv, y5, .pointer (some ⟨g, 0, none⟩), y7, .pointer (some ⟨gs, 0, none⟩), y9, z10, y11, y12, y13, y14, y15, y16, y17, y18, y19, y20, y21, y22, y23, y24, y25, y26, y27, y28, y29, y30, y31, y32, y33, y34, y35, y36, y37, y38, y39, y40, y41, y42, y43, y44, y45, y46, y47, y48, y49, y50, y51, y52, y53, y54, y55, y56, y57, y58, y59, y60, y61, y62, y63, y64, y65, y66, y67, y68, y69, y70, y71, y72, y73, y74, y75, y76, y77, y78, y79, y80, z81, z82, z83, z84, z85, z86, z87, z88, z89, z90, z91, z92, z93, z94, z95, z96, z97], []⟩ w := by
  conv => arg 2; arg 2; whnf
  conv => arg 4; dsimp only
  refine region_grows (by kernel_rfl) (fun σ => #[lv, y1, y2, y3, tv, y5, .pointer (some ⟨g, 0, none⟩), y7, .pointer (some ⟨gs, 0, none⟩), y9, σ 17, y11, y12, y13, y14, y15, y16, y17, y18, y19, y20, y21, y22, y23, y24, y25, y26, y27, y28, y29, y30, y31, y32, y33, y34, y35, y36, y37, y38, y39, y40, y41, y42, y43, y44, y45, y46, y47, y48, y49, y50, y51, y52, y53, y54, y55, y56, y57, y58, y59, y60, y61, y62, y63, y64, y65, y66, y67, y68, y69, y70, y71, y72, y73, y74, y75, y76, y77, y78, y79, y80, σ 0, σ 1, σ 2, σ 3, σ 4, σ 5, σ 6, σ 7, σ 8, σ 9, σ 10, σ 11, σ 12, σ 13, σ 14, σ 15, σ 16]) (fun i => ([z81, z82, z83, z84, z85, z86, z87, z88, z89, z90, z91, z92, z93, z94, z95, z96, z97, z10] : List Value).getD i undef) rfl (fun i X W => match i with
    | 0 => X = .agg #[.string s.hd.chain, .int .i64 s.hd.height, .int .i64 s.hd.time, .slice p1 s.hd.root.length d1, .slice p2 s.hd.vals.length d2, .slice p3 s.hd.next.length d3, .slice p4 s.vals.length d4, .slice p5 s.votes.length d5]
    | 1 => X = .int .i64 (checkN s)
    | 2 => X = .bool false
    | 3 => X = .bool false
    | 4 => X = tv
    | 5 => X = .int .i64 (valsN t)
    | 6 => X = .bool false
    | 7 => X = .bool false
    | 8 => X = .bool false
    | 9 => X = tv
    | 10 => X = .agg #[.string s.hd.chain, .int .i64 s.hd.height, .int .i64 s.hd.time, .slice p1 s.hd.root.length d1, .slice p2 s.hd.vals.length d2, .slice p3 s.hd.next.length d3, .slice p4 s.vals.length d4, .slice p5 s.votes.length d5]
    | 11 => X = .bool (overB t s)
    | 12 => X = tv
    | 13 => X = .agg #[.string s.hd.chain, .int .i64 s.hd.height, .int .i64 s.hd.time, .slice p1 s.hd.root.length d1, .slice p2 s.hd.vals.length d2, .slice p3 s.hd.next.length d3, .slice p4 s.vals.length d4, .slice p5 s.votes.length d5]
    | 14 => X = .bool (overB t s)
    | 15 => X = .bool true
    | 16 => X = .bool true
    | 17 => X = .bool true
    | _ => True) ?_ (by kernel_rfl) ?_ ?_
  · intro i X W W' HB H
    match i, H with
    | 0, H => exact H
    | 1, H => exact H
    | 2, H => exact H
    | 3, H => exact H
    | 4, H => exact H
    | 5, H => exact H
    | 6, H => exact H
    | 7, H => exact H
    | 8, H => exact H
    | 9, H => exact H
    | 10, H => exact H
    | 11, H => exact H
    | 12, H => exact H
    | 13, H => exact H
    | 14, H => exact H
    | 15, H => exact H
    | 16, H => exact H
    | 17, H => exact H
    | _ + 18, _ => exact trivial
  · refine ⟨?_, ?_, ?_, ?_, ?_, ?_, ?_, ?_, ?_, ?_, ?_, ?_, ?_, ?_, ?_, ?_, ?_, ?_, trivial⟩
    · -- 0: Op.load 29 t8
      intro σ W HJ hdep
      simp [Region.binds] at hdep
      have HJ := hid HJ
      have k0 := (hrs.out.below HJ.out hrs.out.lt).cell 0
      have k1 := (hrs.out.below HJ.out hrs.out.lt).cell 1
      have k2 := (hrs.out.below HJ.out hrs.out.lt).cell 2
      have k3 := (hrs.out.below HJ.out hrs.out.lt).cell 3
      have k4 := (hrs.out.below HJ.out hrs.out.lt).cell 4
      have k5 := (hrs.out.below HJ.out hrs.out.lt).cell 5
      have k6 := (hrs.out.below HJ.out hrs.out.lt).cell 6
      have k7 := (hrs.out.below HJ.out hrs.out.lt).cell 7
      simp at k0
      simp at k1
      simp at k2
      simp at k3
      simp at k4
      simp at k5
      simp at k6
      simp at k7
      refine wpOp_plain rfl rfl ?_
      go_simp
      exact Left.mk0 (.agg #[.string s.hd.chain, .int .i64 s.hd.height, .int .i64 s.hd.time, .slice p1 s.hd.root.length d1, .slice p2 s.hd.vals.length d2, .slice p3 s.hd.next.length d3, .slice p4 s.vals.length d4, .slice p5 s.votes.length d5]) (by first | rfl | simp [updF, *]) HJ.out rfl
    · -- 1: Op.call { value (Operand.func 14), args := #[t81], argTypes 
      intro σ W HJ hdep
      simp [Region.binds] at hdep
      have HJ := hid HJ
      have HC := hid (refCheckC s (.agg #[.string s.hd.chain, .int .i64 s.hd.height, .int .i64 s.hd.time, .slice p1 s.hd.root.length d1, .slice p2 s.hd.vals.length d2, .slice p3 s.hd.next.length d3, .slice p4 s.vals.length d4, .slice p5 s.votes.length d5]) N W (htab.out.below HJ.out htab.out.lt) (Nat.le_trans hN HJ.out.size) (hs.out.below (HJ.out.mono hN)) hsf)
      refine wpOp_plain rfl rfl ?_
      go_simp
      refine (HC.out).mono ?_
      rintro e w2 ⟨rfl, hb2⟩
      exact Left.mk (.int .i64 (checkN s)) (by first | rfl | simp [updF, *]) hb2 HJ.out rfl
    · -- 2: Op.binOp BinOp.neq 30 t82 (const (0:i64)) 30
      intro σ W HJ hdep
      simp [Region.binds] at hdep
      have HJ := hid HJ
      have eb := hcb
      refine wpOp_plain rfl rfl ?_
      go_simp
      exact Left.mk0 (.bool false) (by first | rfl | simp [updF, *]) HJ.out rfl
    · -- 3: Op.move t83
      intro σ W HJ hdep
      simp [Region.binds] at hdep
      have HJ := hid HJ
      refine wpOp_plain rfl rfl ?_
      go_simp
      exact Left.mk0 (.bool false) (by first | rfl | simp [updF, *]) HJ.out rfl
    · -- 4: Op.move t4   [guarded: some (3, false)]
      intro σ W HJ hdep
      simp [Region.binds] at hdep
      have HJ := hid HJ
      refine wpOp_guarded rfl (by simp [Region.wanted, yielded, *]) ?_
      go_simp
      exact Left.mk0 (tv) (by first | rfl | simp [updF, *]) HJ.out rfl
    · -- 5: Op.call { value (Operand.func 10), args := #[t85], argTypes 
      intro σ W HJ hdep
      simp [Region.binds] at hdep
      have HJ := hid HJ
      have HC := hid (refValsC t tv N W (ht.out.below (HJ.out.mono hN)) (Nat.le_trans hN HJ.out.size) htlen)
      refine wpOp_guarded rfl (by simp [Region.wanted, yielded, *]) ?_
      go_simp
      refine (HC.out).mono ?_
      rintro e w2 ⟨rfl, hb2⟩
      exact Left.mk (.int .i64 (valsN t)) (by first | rfl | simp [updF, *]) hb2 HJ.out rfl
    · -- 6: Op.binOp BinOp.neq 30 t86 (const (0:i64)) 30   [guarded: som
      intro σ W HJ hdep
      simp [Region.binds] at hdep
      have HJ := hid HJ
      have eb := hvb
      refine wpOp_guarded rfl (by simp [Region.wanted, yielded, *]) ?_
      go_simp
      exact Left.mk0 (.bool false) (by first | rfl | simp [updF, *]) HJ.out rfl
    · -- 7: Op.pick t84 (const (Value.bool true)) t87
      intro σ W HJ hdep
      simp [Region.binds] at hdep
      have HJ := hid HJ
      refine wpOp_plain rfl rfl ?_
      go_simp
      exact Left.mk0 (.bool false) (by first | rfl | simp [updF, *]) HJ.out rfl
    · -- 8: Op.move t88
      intro σ W HJ hdep
      simp [Region.binds] at hdep
      have HJ := hid HJ
      refine wpOp_plain rfl rfl ?_
      go_simp
      exact Left.mk0 (.bool false) (by first | rfl | simp [updF, *]) HJ.out rfl
    · -- 9: Op.move t4   [guarded: some (8, false)]
      intro σ W HJ hdep
      simp [Region.binds] at hdep
      have HJ := hid HJ
      refine wpOp_guarded rfl (by simp [Region.wanted, yielded, *]) ?_
      go_simp
      exact Left.mk0 (tv) (by first | rfl | simp [updF, *]) HJ.out rfl
    · -- 10: Op.load 29 t8   [guarded: some (8, false)]
      intro σ W HJ hdep
      simp [Region.binds] at hdep
      have HJ := hid HJ
      have k0 := (hrs.out.below HJ.out hrs.out.lt).cell 0
      have k1 := (hrs.out.below HJ.out hrs.out.lt).cell 1
      have k2 := (hrs.out.below HJ.out hrs.out.lt).cell 2
      have k3 := (hrs.out.below HJ.out hrs.out.lt).cell 3
      have k4 := (hrs.out.below HJ.out hrs.out.lt).cell 4
      have k5 := (hrs.out.below HJ.out hrs.out.lt).cell 5
      have k6 := (hrs.out.below HJ.out hrs.out.lt).cell 6
      have k7 := (hrs.out.below HJ.out hrs.out.lt).cell 7
      simp at k0
      simp at k1
      simp at k2
      simp at k3
      simp at k4
      simp at k5
      simp at k6
      simp at k7
      refine wpOp_guarded rfl (by simp [Region.wanted, yielded, *]) ?_
      go_simp
      exact Left.mk0 (.agg #[.string s.hd.chain, .int .i64 s.hd.height, .int .i64 s.hd.time, .slice p1 s.hd.root.length d1, .slice p2 s.hd.vals.length d2, .slice p3 s.hd.next.length d3, .slice p4 s.vals.length d4, .slice p5 s.votes.length d5]) (by first | rfl | simp [updF, *]) HJ.out rfl
    · -- 11: Op.call { value (Operand.func 23), args := #[t90, t91], argT
      intro σ W HJ hdep
      simp [Region.binds] at hdep
      have HJ := hid HJ
      have HC := hid (overC t s tv (.agg #[.string s.hd.chain, .int .i64 s.hd.height, .int .i64 s.hd.time, .slice p1 s.hd.root.length d1, .slice p2 s.hd.vals.length d2, .slice p3 s.hd.next.length d3, .slice p4 s.vals.length d4, .slice p5 s.votes.length d5]) N W (Nat.le_trans hN HJ.out.size) (ht.out.below (HJ.out.mono hN)) (hs.out.below (HJ.out.mono hN)) htv.out htok.out hsv.out hsl.out)
      refine wpOp_guarded rfl (by simp [Region.wanted, yielded, *]) ?_
      go_simp
      refine (HC.out).mono ?_
      rintro e w2 ⟨rfl, hb2⟩
      exact Left.mk (.bool (overB t s)) (by first | rfl | simp [updF, *]) hb2 HJ.out rfl
    · -- 12: Op.move t4   [guarded: some (8, false)]
      intro σ W HJ hdep
      simp [Region.binds] at hdep
      have HJ := hid HJ
      refine wpOp_guarded rfl (by simp [Region.wanted, yielded, *]) ?_
      go_simp
      exact Left.mk0 (tv) (by first | rfl | simp [updF, *]) HJ.out rfl
    · -- 13: Op.load 29 t8   [guarded: some (8, false)]
      intro σ W HJ hdep
      simp [Region.binds] at hdep
      have HJ := hid HJ
      have k0 := (hrs.out.below HJ.out hrs.out.lt).cell 0
      have k1 := (hrs.out.below HJ.out hrs.out.lt).cell 1
      have k2 := (hrs.out.below HJ.out hrs.out.lt).cell 2
      have k3 := (hrs.out.below HJ.out hrs.out.lt).cell 3
      have k4 := (hrs.out.below HJ.out hrs.out.lt).cell 4
      have k5 := (hrs.out.below HJ.out hrs.out.lt).cell 5
      have k6 := (hrs.out.below HJ.out hrs.out.lt).cell 6
      have k7 := (hrs.out.below HJ.out hrs.out.lt).cell 7
      simp at k0
      simp at k1
      simp at k2
      simp at k3
      simp at k4
      simp at k5
      simp at k6
      simp at k7
      refine wpOp_guarded rfl (by simp [Region.wanted, yielded, *]) ?_
      go_simp
      exact Left.mk0 (.agg #[.string s.hd.chain, .int .i64 s.hd.height, .int .i64 s.hd.time, .slice p1 s.hd.root.length d1, .slice p2 s.hd.vals.length d2, .slice p3 s.hd.next.length d3, .slice p4 s.vals.length d4, .slice p5 s.votes.length d5]) (by first | rfl | simp [updF, *]) HJ.out rfl
    · -- 14: Op.call { value (Operand.func 24), args := #[t93, t94], argT
      intro σ W HJ hdep
      simp [Region.binds] at hdep
      have HJ := hid HJ
      have HC := hid (refOverC t s tv (.agg #[.string s.hd.chain, .int .i64 s.hd.height, .int .i64 s.hd.time, .slice p1 s.hd.root.length d1, .slice p2 s.hd.vals.length d2, .slice p3 s.hd.next.length d3, .slice p4 s.vals.length d4, .slice p5 s.votes.length d5]) N W (Nat.le_trans hN HJ.out.size) (ht.out.below (HJ.out.mono hN)) (hs.out.below (HJ.out.mono hN)) htv.out htok.out hsv.out hsl.out)
      refine wpOp_guarded rfl (by simp [Region.wanted, yielded, *]) ?_
      go_simp
      refine (HC.out).mono ?_
      rintro e w2 ⟨rfl, hb2⟩
      exact Left.mk (.bool (overB t s)) (by first | rfl | simp [updF, *]) hb2 HJ.out rfl
    · -- 15: Op.binOp BinOp.eql 4 t92 t95 4   [guarded: some (8, false)]
      intro σ W HJ hdep
      simp [Region.binds] at hdep
      have HJ := hid HJ
      have ebb : (overB t s == overB t s) = true := by simp
      refine wpOp_guarded rfl (by simp [Region.wanted, yielded, *]) ?_
      go_simp
      exact Left.mk0 (.bool true) (by first | rfl | simp [updF, *]) HJ.out rfl
    · -- 16: Op.pick t89 (const (Value.bool true)) t96
      intro σ W HJ hdep
      simp [Region.binds] at hdep
      have HJ := hid HJ
      refine wpOp_plain rfl rfl ?_
      go_simp
      exact Left.mk0 (.bool true) (by first | rfl | simp [updF, *]) HJ.out rfl
    · -- 17: Op.assign t97
      intro σ W HJ hdep
      simp [Region.binds] at hdep
      have HJ := hid HJ
      refine wpOp_plain rfl rfl ?_
      go_simp
      exact Left.mk0 (.bool true) (by first | rfl | simp [updF, *]) HJ.out rfl
  · intro σ w' hb hg
    exact hQ.out σ w' hb (by first | exact ⟨hg 17 (by decide)⟩ | exact hg 17 (by decide))
set_option maxRecDepth 100000 in
set_option maxHeartbeats 4000000 in
theorem tellsRegion9cn {y1 y2 y3 y5 y7 y9 y11 y12 y13 y14 y15 y16 y17 y18 y19 y20 y21 y22 y23 y24 y25 y26 y27 y28 y29 y30 y31 y32 y33 y34 y35 y36 y37 y38 y39 y40 y41 y42 y43 y44 y45 y46 y47 y48 y49 y50 y51 y52 y53 y54 y55 y56 y57 y58 y59 y60 y61 y62 y63 y64 y65 y66 y67 y68 y69 y70 y71 y72 y73 y74 y75 y76 y77 y78 y79 y80 z10 z81 z82 z83 z84 z85 z86 z87 z88 z89 z90 z91 z92 z93 z94 z95 z96 z97 : Value} {g gs N : Nat} (l t : List Vl) (h : Hd) (s : Sg) (lv tv : Value) (o1 o2 o3 p1 p2 p3 p4 p5 : Option Addr) (c1 c2 c3 d1 d2 d3 d4 d5 : Nat) {w : World} (htab : Hid (tableAt w)) (hN : N ≤ w.heap.size) (_hr : Hid (Row w g 25 [.string h.chain, .int .i64 h.height, .int .i64 h.time, .slice o1 h.root.length c1, .slice o2 h.vals.length c2, .slice o3 h.next.length c3])) (hrs : Hid (Row w gs 29 [.string s.hd.chain, .int .i64 s.hd.height, .int .i64 s.hd.time, .slice p1 s.hd.root.length d1, .slice p2 s.hd.vals.length d2, .slice p3 s.hd.next.length d3, .slice p4 s.vals.length d4, .slice p5 s.votes.length d5])) (_hl : Hid (Vals w N lv l)) (_hlen : l.length < 2305843009213693952) (_hok : Hid (∀ v ∈ l, v.ok)) (_hv : Hid (HdV w N (.agg #[.string h.chain, .int .i64 h.height, .int .i64 h.time, .slice o1 h.root.length c1, .slice o2 h.vals.length c2, .slice o3 h.next.length c3]) h)) (_hf : h.fits) (hs : Hid (SgV w N (.agg #[.string s.hd.chain, .int .i64 s.hd.height, .int .i64 s.hd.time, .slice p1 s.hd.root.length d1, .slice p2 s.hd.vals.length d2, .slice p3 s.hd.next.length d3, .slice p4 s.vals.length d4, .slice p5 s.votes.length d5]) s)) (hsf : s.fits) (ht : Hid (Vals w N tv t)) (htlen : t.length < 2305843009213693952) (hcb : (checkN s != 0) = false) (hvb : (valsN t != 0) = true) (Q : Exit → Act → World → Prop)
    (hQ : Hid (∀ (σ : Nat → Value) (w' : World), Below w.heap.size w w' → /-17-/ σ 17 = .bool true → Q .normal ⟨#[lv, y1, y2, y3, tv, y5, .pointer (some ⟨g, 0, none⟩), y7, .pointer (some ⟨gs, 0, none⟩), y9, σ 17, y11, y12, y13, y14, y15, y16, y17, y18, y19, y20, y21, y22, y23, y24, y25, y26, y27, y28, y29, y30, y31, y32, y33, y34, y35, y36, y37, y38, y39, y40, y41, y42, y43, y44, y45, y46, y47, y48, y49, y50, y51, y52, y53, y54, y55, y56, y57, y58, y59, y60, y61, y62, y63, y64, y65, y66, y67, y68, y69, y70, y71, y72, y73, y74, y75, y76, y77, y78, y79, y80, σ 0, σ 1, σ 2, σ 3, σ 4, σ 5, σ 6, σ 7, σ 8, σ 9, σ 10, σ 11, σ 12, σ 13, σ 14, σ 15, σ 16], []⟩ w')) :
    Code.wp Tryd.prog (.region 9 ((Tryd.f3.body.bind (regOf 9)).getD #[]) true) Q ⟨#[lv, y1, y2, y3, tv, y5, .pointer (some ⟨g, 0, none⟩), y7, .pointer (some ⟨gs, 0, none⟩), y9, z10, y11, y12, y13, y14, y15, y16, y17, y18, y19, y20, y21, y22, y23, y24, y25, y26, y27, y28, y29, y30, y31, y32, y33, y34, y35, y36, y37, y38, y39, y40, y41, y42, y43, y44, y45, y46, y47, y48, y49, y50, y51, y52, y53, y54, y55, y56, y57, y58, y59, y60, y61, y62, y63, y64, y65, y66, y67, y68, y69, y70, y71, y72, y73, y74, y75, y76, y77, y78, y79, y80, z81, z82, z83, z84, z85, z86, z87, z88, z89, z90, z91, z92, z93, z94, z95, z96, z97], []⟩ w := by
  conv => arg 2; arg 2; whnf
  conv => arg 4; dsimp only
  refine region_grows (by kernel_rfl) (fun σ => #[lv, y1, y2, y3, tv, y5, .pointer (some ⟨g, 0, none⟩), y7, .pointer (some ⟨gs, 0, none⟩), y9, σ 17, y11, y12, y13, y14, y15, y16, y17, y18, y19, y20, y21, y22, y23, y24, y25, y26, y27, y28, y29, y30, y31, y32, y33, y34, y35, y36, y37, y38, y39, y40, y41, y42, y43, y44, y45, y46, y47, y48, y49, y50, y51, y52, y53, y54, y55, y56, y57, y58, y59, y60, y61, y62, y63, y64, y65, y66, y67, y68, y69, y70, y71, y72, y73, y74, y75, y76, y77, y78, y79, y80, σ 0, σ 1, σ 2, σ 3, σ 4, σ 5, σ 6, σ 7, σ 8, σ 9, σ 10, σ 11, σ 12, σ 13, σ 14, σ 15, σ 16]) (fun i => ([z81, z82, z83, z84, z85, z86, z87, z88, z89, z90, z91, z92, z93, z94, z95, z96, z97, z10] : List Value).getD i undef) rfl (fun i X W => match i with
    | 0 => X = .agg #[.string s.hd.chain, .int .i64 s.hd.height, .int .i64 s.hd.time, .slice p1 s.hd.root.length d1, .slice p2 s.hd.vals.length d2, .slice p3 s.hd.next.length d3, .slice p4 s.vals.length d4, .slice p5 s.votes.length d5]
    | 1 => X = .int .i64 (checkN s)
    | 2 => X = .bool false
    | 3 => X = .bool false
    | 4 => X = tv
    | 5 => X = .int .i64 (valsN t)
    | 6 => X = .bool true
    | 7 => X = .bool true
    | 8 => X = .bool true
    | 16 => X = .bool true
    | 17 => X = .bool true
    | _ => True) ?_ (by kernel_rfl) ?_ ?_
  · intro i X W W' HB H
    match i, H with
    | 0, H => exact H
    | 1, H => exact H
    | 2, H => exact H
    | 3, H => exact H
    | 4, H => exact H
    | 5, H => exact H
    | 6, H => exact H
    | 7, H => exact H
    | 8, H => exact H
    | 16, H => exact H
    | 17, H => exact H
    | 9, _ => exact trivial
    | 10, _ => exact trivial
    | 11, _ => exact trivial
    | 12, _ => exact trivial
    | 13, _ => exact trivial
    | 14, _ => exact trivial
    | 15, _ => exact trivial
    | _ + 18, _ => exact trivial
  · refine ⟨?_, ?_, ?_, ?_, ?_, ?_, ?_, ?_, ?_, ?_, ?_, ?_, ?_, ?_, ?_, ?_, ?_, ?_, trivial⟩
    · -- 0: Op.load 29 t8
      intro σ W HJ hdep
      simp [Region.binds] at hdep
      have HJ := hid HJ
      have k0 := (hrs.out.below HJ.out hrs.out.lt).cell 0
      have k1 := (hrs.out.below HJ.out hrs.out.lt).cell 1
      have k2 := (hrs.out.below HJ.out hrs.out.lt).cell 2
      have k3 := (hrs.out.below HJ.out hrs.out.lt).cell 3
      have k4 := (hrs.out.below HJ.out hrs.out.lt).cell 4
      have k5 := (hrs.out.below HJ.out hrs.out.lt).cell 5
      have k6 := (hrs.out.below HJ.out hrs.out.lt).cell 6
      have k7 := (hrs.out.below HJ.out hrs.out.lt).cell 7
      simp at k0
      simp at k1
      simp at k2
      simp at k3
      simp at k4
      simp at k5
      simp at k6
      simp at k7
      refine wpOp_plain rfl rfl ?_
      go_simp
      exact Left.mk0 (.agg #[.string s.hd.chain, .int .i64 s.hd.height, .int .i64 s.hd.time, .slice p1 s.hd.root.length d1, .slice p2 s.hd.vals.length d2, .slice p3 s.hd.next.length d3, .slice p4 s.vals.length d4, .slice p5 s.votes.length d5]) (by first | rfl | simp [updF, *]) HJ.out rfl
    · -- 1: Op.call { value (Operand.func 14), args := #[t81], argTypes 
      intro σ W HJ hdep
      simp [Region.binds] at hdep
      have HJ := hid HJ
      have HC := hid (refCheckC s (.agg #[.string s.hd.chain, .int .i64 s.hd.height, .int .i64 s.hd.time, .slice p1 s.hd.root.length d1, .slice p2 s.hd.vals.length d2, .slice p3 s.hd.next.length d3, .slice p4 s.vals.length d4, .slice p5 s.votes.length d5]) N W (htab.out.below HJ.out htab.out.lt) (Nat.le_trans hN HJ.out.size) (hs.out.below (HJ.out.mono hN)) hsf)
      refine wpOp_plain rfl rfl ?_
      go_simp
      refine (HC.out).mono ?_
      rintro e w2 ⟨rfl, hb2⟩
      exact Left.mk (.int .i64 (checkN s)) (by first | rfl | simp [updF, *]) hb2 HJ.out rfl
    · -- 2: Op.binOp BinOp.neq 30 t82 (const (0:i64)) 30
      intro σ W HJ hdep
      simp [Region.binds] at hdep
      have HJ := hid HJ
      have eb := hcb
      refine wpOp_plain rfl rfl ?_
      go_simp
      exact Left.mk0 (.bool false) (by first | rfl | simp [updF, *]) HJ.out rfl
    · -- 3: Op.move t83
      intro σ W HJ hdep
      simp [Region.binds] at hdep
      have HJ := hid HJ
      refine wpOp_plain rfl rfl ?_
      go_simp
      exact Left.mk0 (.bool false) (by first | rfl | simp [updF, *]) HJ.out rfl
    · -- 4: Op.move t4   [guarded: some (3, false)]
      intro σ W HJ hdep
      simp [Region.binds] at hdep
      have HJ := hid HJ
      refine wpOp_guarded rfl (by simp [Region.wanted, yielded, *]) ?_
      go_simp
      exact Left.mk0 (tv) (by first | rfl | simp [updF, *]) HJ.out rfl
    · -- 5: Op.call { value (Operand.func 10), args := #[t85], argTypes 
      intro σ W HJ hdep
      simp [Region.binds] at hdep
      have HJ := hid HJ
      have HC := hid (refValsC t tv N W (ht.out.below (HJ.out.mono hN)) (Nat.le_trans hN HJ.out.size) htlen)
      refine wpOp_guarded rfl (by simp [Region.wanted, yielded, *]) ?_
      go_simp
      refine (HC.out).mono ?_
      rintro e w2 ⟨rfl, hb2⟩
      exact Left.mk (.int .i64 (valsN t)) (by first | rfl | simp [updF, *]) hb2 HJ.out rfl
    · -- 6: Op.binOp BinOp.neq 30 t86 (const (0:i64)) 30   [guarded: som
      intro σ W HJ hdep
      simp [Region.binds] at hdep
      have HJ := hid HJ
      have eb := hvb
      refine wpOp_guarded rfl (by simp [Region.wanted, yielded, *]) ?_
      go_simp
      exact Left.mk0 (.bool true) (by first | rfl | simp [updF, *]) HJ.out rfl
    · -- 7: Op.pick t84 (const (Value.bool true)) t87
      intro σ W HJ hdep
      simp [Region.binds] at hdep
      have HJ := hid HJ
      refine wpOp_plain rfl rfl ?_
      go_simp
      exact Left.mk0 (.bool true) (by first | rfl | simp [updF, *]) HJ.out rfl
    · -- 8: Op.move t88
      intro σ W HJ hdep
      simp [Region.binds] at hdep
      have HJ := hid HJ
      refine wpOp_plain rfl rfl ?_
      go_simp
      exact Left.mk0 (.bool true) (by first | rfl | simp [updF, *]) HJ.out rfl
    · -- 9: Op.move t4   [guarded: some (8, false)]
      intro σ W HJ hdep
      simp [Region.binds] at hdep
      have HJ := hid HJ
      have eg : σ 8 = .bool true := by first | exact hdep | exact hdep.1 | exact hdep.2 | exact hdep.2.1 | exact hdep.2.2 | exact hdep.2.2.1 | exact hdep.2.2.2
      clear hdep
      refine wpOp_unwanted rfl (by simp [Region.wanted, yielded, *]) ?_
      exact Left.mk0 undef (by first | rfl | simp [updF, *]) HJ.out trivial
    · -- 10: Op.load 29 t8   [guarded: some (8, false)]
      intro σ W HJ hdep
      simp [Region.binds] at hdep
      have HJ := hid HJ
      have eg : σ 8 = .bool true := by first | exact hdep | exact hdep.1 | exact hdep.2 | exact hdep.2.1 | exact hdep.2.2 | exact hdep.2.2.1 | exact hdep.2.2.2
      clear hdep
      refine wpOp_unwanted rfl (by simp [Region.wanted, yielded, *]) ?_
      exact Left.mk0 undef (by first | rfl | simp [updF, *]) HJ.out trivial
    · -- 11: Op.call { value (Operand.func 23), args := #[t90, t91], argT
      intro σ W HJ hdep
      simp [Region.binds] at hdep
      have HJ := hid HJ
      have eg : σ 8 = .bool true := by first | exact hdep | exact hdep.1 | exact hdep.2 | exact hdep.2.1 | exact hdep.2.2 | exact hdep.2.2.1 | exact hdep.2.2.2
      clear hdep
      refine wpOp_unwanted rfl (by simp [Region.wanted, yielded, *]) ?_
      exact Left.mk0 undef (by first | rfl | simp [updF, *]) HJ.out trivial
    · -- 12: Op.move t4   [guarded: some (8, false)]
      intro σ W HJ hdep
      simp [Region.binds] at hdep
      have HJ := hid HJ
      have eg : σ 8 = .bool true := by first | exact hdep | exact hdep.1 | exact hdep.2 | exact hdep.2.1 | exact hdep.2.2 | exact hdep.2.2.1 | exact hdep.2.2.2
      clear hdep
      refine wpOp_unwanted rfl (by simp [Region.wanted, yielded, *]) ?_
      exact Left.mk0 undef (by first | rfl | simp [updF, *]) HJ.out trivial
    · -- 13: Op.load 29 t8   [guarded: some (8, false)]
      intro σ W HJ hdep
      simp [Region.binds] at hdep
      have HJ := hid HJ
      have eg : σ 8 = .bool true := by first | exact hdep | exact hdep.1 | exact hdep.2 | exact hdep.2.1 | exact hdep.2.2 | exact hdep.2.2.1 | exact hdep.2.2.2
      clear hdep
      refine wpOp_unwanted rfl (by simp [Region.wanted, yielded, *]) ?_
      exact Left.mk0 undef (by first | rfl | simp [updF, *]) HJ.out trivial
    · -- 14: Op.call { value (Operand.func 24), args := #[t93, t94], argT
      intro σ W HJ hdep
      simp [Region.binds] at hdep
      have HJ := hid HJ
      have eg : σ 8 = .bool true := by first | exact hdep | exact hdep.1 | exact hdep.2 | exact hdep.2.1 | exact hdep.2.2 | exact hdep.2.2.1 | exact hdep.2.2.2
      clear hdep
      refine wpOp_unwanted rfl (by simp [Region.wanted, yielded, *]) ?_
      exact Left.mk0 undef (by first | rfl | simp [updF, *]) HJ.out trivial
    · -- 15: Op.binOp BinOp.eql 4 t92 t95 4   [guarded: some (8, false)]
      intro σ W HJ hdep
      simp [Region.binds] at hdep
      have HJ := hid HJ
      have eg : σ 8 = .bool true := by first | exact hdep | exact hdep.1 | exact hdep.2 | exact hdep.2.1 | exact hdep.2.2 | exact hdep.2.2.1 | exact hdep.2.2.2
      clear hdep
      refine wpOp_unwanted rfl (by simp [Region.wanted, yielded, *]) ?_
      exact Left.mk0 undef (by first | rfl | simp [updF, *]) HJ.out trivial
    · -- 16: Op.pick t89 (const (Value.bool true)) t96
      intro σ W HJ hdep
      simp [Region.binds] at hdep
      have HJ := hid HJ
      refine wpOp_plain rfl rfl ?_
      go_simp
      exact Left.mk0 (.bool true) (by first | rfl | simp [updF, *]) HJ.out rfl
    · -- 17: Op.assign t97
      intro σ W HJ hdep
      simp [Region.binds] at hdep
      have HJ := hid HJ
      refine wpOp_plain rfl rfl ?_
      go_simp
      exact Left.mk0 (.bool true) (by first | rfl | simp [updF, *]) HJ.out rfl
  · intro σ w' hb hg
    exact hQ.out σ w' hb (by first | exact ⟨hg 17 (by decide)⟩ | exact hg 17 (by decide))
set_option maxRecDepth 100000 in
set_option maxHeartbeats 4000000 in
theorem tellsRegion9nn {y1 y2 y3 y5 y7 y9 y11 y12 y13 y14 y15 y16 y17 y18 y19 y20 y21 y22 y23 y24 y25 y26 y27 y28 y29 y30 y31 y32 y33 y34 y35 y36 y37 y38 y39 y40 y41 y42 y43 y44 y45 y46 y47 y48 y49 y50 y51 y52 y53 y54 y55 y56 y57 y58 y59 y60 y61 y62 y63 y64 y65 y66 y67 y68 y69 y70 y71 y72 y73 y74 y75 y76 y77 y78 y79 y80 z10 z81 z82 z83 z84 z85 z86 z87 z88 z89 z90 z91 z92 z93 z94 z95 z96 z97 : Value} {g gs N : Nat} (l t : List Vl) (h : Hd) (s : Sg) (lv tv : Value) (o1 o2 o3 p1 p2 p3 p4 p5 : Option Addr) (c1 c2 c3 d1 d2 d3 d4 d5 : Nat) {w : World} (htab : Hid (tableAt w)) (hN : N ≤ w.heap.size) (_hr : Hid (Row w g 25 [.string h.chain, .int .i64 h.height, .int .i64 h.time, .slice o1 h.root.length c1, .slice o2 h.vals.length c2, .slice o3 h.next.length c3])) (hrs : Hid (Row w gs 29 [.string s.hd.chain, .int .i64 s.hd.height, .int .i64 s.hd.time, .slice p1 s.hd.root.length d1, .slice p2 s.hd.vals.length d2, .slice p3 s.hd.next.length d3, .slice p4 s.vals.length d4, .slice p5 s.votes.length d5])) (_hl : Hid (Vals w N lv l)) (_hlen : l.length < 2305843009213693952) (_hok : Hid (∀ v ∈ l, v.ok)) (_hv : Hid (HdV w N (.agg #[.string h.chain, .int .i64 h.height, .int .i64 h.time, .slice o1 h.root.length c1, .slice o2 h.vals.length c2, .slice o3 h.next.length c3]) h)) (_hf : h.fits) (hs : Hid (SgV w N (.agg #[.string s.hd.chain, .int .i64 s.hd.height, .int .i64 s.hd.time, .slice p1 s.hd.root.length d1, .slice p2 s.hd.vals.length d2, .slice p3 s.hd.next.length d3, .slice p4 s.vals.length d4, .slice p5 s.votes.length d5]) s)) (hsf : s.fits) (_ht : Hid (Vals w N tv t)) (_htlen : t.length < 2305843009213693952) (hcb : (checkN s != 0) = true) (Q : Exit → Act → World → Prop)
    (hQ : Hid (∀ (σ : Nat → Value) (w' : World), Below w.heap.size w w' → /-17-/ σ 17 = .bool true → Q .normal ⟨#[lv, y1, y2, y3, tv, y5, .pointer (some ⟨g, 0, none⟩), y7, .pointer (some ⟨gs, 0, none⟩), y9, σ 17, y11, y12, y13, y14, y15, y16, y17, y18, y19, y20, y21, y22, y23, y24, y25, y26, y27, y28, y29, y30, y31, y32, y33, y34, y35, y36, y37, y38, y39, y40, y41, y42, y43, y44, y45, y46, y47, y48, y49, y50, y51, y52, y53, y54, y55, y56, y57, y58, y59, y60, y61, y62, y63, y64, y65, y66, y67, y68, y69, y70, y71, y72, y73, y74, y75, y76, y77, y78, y79, y80, σ 0, σ 1, σ 2, σ 3, σ 4, σ 5, σ 6, σ 7, σ 8, σ 9, σ 10, σ 11, σ 12, σ 13, σ 14, σ 15, σ 16], []⟩ w')) :
    Code.wp Tryd.prog (.region 9 ((Tryd.f3.body.bind (regOf 9)).getD #[]) true) Q ⟨#[lv, y1, y2, y3, tv, y5, .pointer (some ⟨g, 0, none⟩), y7, .pointer (some ⟨gs, 0, none⟩), y9, z10, y11, y12, y13, y14, y15, y16, y17, y18, y19, y20, y21, y22, y23, y24, y25, y26, y27, y28, y29, y30, y31, y32, y33, y34, y35, y36, y37, y38, y39, y40, y41, y42, y43, y44, y45, y46, y47, y48, y49, y50, y51, y52, y53, y54, y55, y56, y57, y58, y59, y60, y61, y62, y63, y64, y65, y66, y67, y68, y69, y70, y71, y72, y73, y74, y75, y76, y77, y78, y79, y80, z81, z82, z83, z84, z85, z86, z87, z88, z89, z90, z91, z92, z93, z94, z95, z96, z97], []⟩ w := by
  conv => arg 2; arg 2; whnf
  conv => arg 4; dsimp only
  refine region_grows (by kernel_rfl) (fun σ => #[lv, y1, y2, y3, tv, y5, .pointer (some ⟨g, 0, none⟩), y7, .pointer (some ⟨gs, 0, none⟩), y9, σ 17, y11, y12, y13, y14, y15, y16, y17, y18, y19, y20, y21, y22, y23, y24, y25, y26, y27, y28, y29, y30, y31, y32, y33, y34, y35, y36, y37, y38, y39, y40, y41, y42, y43, y44, y45, y46, y47, y48, y49, y50, y51, y52, y53, y54, y55, y56, y57, y58, y59, y60, y61, y62, y63, y64, y65, y66, y67, y68, y69, y70, y71, y72, y73, y74, y75, y76, y77, y78, y79, y80, σ 0, σ 1, σ 2, σ 3, σ 4, σ 5, σ 6, σ 7, σ 8, σ 9, σ 10, σ 11, σ 12, σ 13, σ 14, σ 15, σ 16]) (fun i => ([z81, z82, z83, z84, z85, z86, z87, z88, z89, z90, z91, z92, z93, z94, z95, z96, z97, z10] : List Value).getD i undef) rfl (fun i X W => match i with
    | 0 => X = .agg #[.string s.hd.chain, .int .i64 s.hd.height, .int .i64 s.hd.time, .slice p1 s.hd.root.length d1, .slice p2 s.hd.vals.length d2, .slice p3 s.hd.next.length d3, .slice p4 s.vals.length d4, .slice p5 s.votes.length d5]
    | 1 => X = .int .i64 (checkN s)
    | 2 => X = .bool true
    | 3 => X = .bool true
    | 7 => X = .bool true
    | 8 => X = .bool true
    | 16 => X = .bool true
    | 17 => X = .bool true
    | _ => True) ?_ (by kernel_rfl) ?_ ?_
  · intro i X W W' HB H
    match i, H with
    | 0, H => exact H
    | 1, H => exact H
    | 2, H => exact H
    | 3, H => exact H
    | 7, H => exact H
    | 8, H => exact H
    | 16, H => exact H
    | 17, H => exact H
    | 4, _ => exact trivial
    | 5, _ => exact trivial
    | 6, _ => exact trivial
    | 9, _ => exact trivial
    | 10, _ => exact trivial
    | 11, _ => exact trivial
    | 12, _ => exact trivial
    | 13, _ => exact trivial
    | 14, _ => exact trivial
    | 15, _ => exact trivial
    | _ + 18, _ => exact trivial
  · refine ⟨?_, ?_, ?_, ?_, ?_, ?_, ?_, ?_, ?_, ?_, ?_, ?_, ?_, ?_, ?_, ?_, ?_, ?_, trivial⟩
    · -- 0: Op.load 29 t8
      intro σ W HJ hdep
      simp [Region.binds] at hdep
      have HJ := hid HJ
      have k0 := (hrs.out.below HJ.out hrs.out.lt).cell 0
      have k1 := (hrs.out.below HJ.out hrs.out.lt).cell 1
      have k2 := (hrs.out.below HJ.out hrs.out.lt).cell 2
      have k3 := (hrs.out.below HJ.out hrs.out.lt).cell 3
      have k4 := (hrs.out.below HJ.out hrs.out.lt).cell 4
      have k5 := (hrs.out.below HJ.out hrs.out.lt).cell 5
      have k6 := (hrs.out.below HJ.out hrs.out.lt).cell 6
      have k7 := (hrs.out.below HJ.out hrs.out.lt).cell 7
      simp at k0
      simp at k1
      simp at k2
      simp at k3
      simp at k4
      simp at k5
      simp at k6
      simp at k7
      refine wpOp_plain rfl rfl ?_
      go_simp
      exact Left.mk0 (.agg #[.string s.hd.chain, .int .i64 s.hd.height, .int .i64 s.hd.time, .slice p1 s.hd.root.length d1, .slice p2 s.hd.vals.length d2, .slice p3 s.hd.next.length d3, .slice p4 s.vals.length d4, .slice p5 s.votes.length d5]) (by first | rfl | simp [updF, *]) HJ.out rfl
    · -- 1: Op.call { value (Operand.func 14), args := #[t81], argTypes 
      intro σ W HJ hdep
      simp [Region.binds] at hdep
      have HJ := hid HJ
      have HC := hid (refCheckC s (.agg #[.string s.hd.chain, .int .i64 s.hd.height, .int .i64 s.hd.time, .slice p1 s.hd.root.length d1, .slice p2 s.hd.vals.length d2, .slice p3 s.hd.next.length d3, .slice p4 s.vals.length d4, .slice p5 s.votes.length d5]) N W (htab.out.below HJ.out htab.out.lt) (Nat.le_trans hN HJ.out.size) (hs.out.below (HJ.out.mono hN)) hsf)
      refine wpOp_plain rfl rfl ?_
      go_simp
      refine (HC.out).mono ?_
      rintro e w2 ⟨rfl, hb2⟩
      exact Left.mk (.int .i64 (checkN s)) (by first | rfl | simp [updF, *]) hb2 HJ.out rfl
    · -- 2: Op.binOp BinOp.neq 30 t82 (const (0:i64)) 30
      intro σ W HJ hdep
      simp [Region.binds] at hdep
      have HJ := hid HJ
      have eb := hcb
      refine wpOp_plain rfl rfl ?_
      go_simp
      exact Left.mk0 (.bool true) (by first | rfl | simp [updF, *]) HJ.out rfl
    · -- 3: Op.move t83
      intro σ W HJ hdep
      simp [Region.binds] at hdep
      have HJ := hid HJ
      refine wpOp_plain rfl rfl ?_
      go_simp
      exact Left.mk0 (.bool true) (by first | rfl | simp [updF, *]) HJ.out rfl
    · -- 4: Op.move t4   [guarded: some (3, false)]
      intro σ W HJ hdep
      simp [Region.binds] at hdep
      have HJ := hid HJ
      have eg : σ 3 = .bool true := by first | exact hdep | exact hdep.1 | exact hdep.2 | exact hdep.2.1 | exact hdep.2.2 | exact hdep.2.2.1 | exact hdep.2.2.2
      clear hdep
      refine wpOp_unwanted rfl (by simp [Region.wanted, yielded, *]) ?_
      exact Left.mk0 undef (by first | rfl | simp [updF, *]) HJ.out trivial
    · -- 5: Op.call { value (Operand.func 10), args := #[t85], argTypes 
      intro σ W HJ hdep
      simp [Region.binds] at hdep
      have HJ := hid HJ
      have eg : σ 3 = .bool true := by first | exact hdep | exact hdep.1 | exact hdep.2 | exact hdep.2.1 | exact hdep.2.2 | exact hdep.2.2.1 | exact hdep.2.2.2
      clear hdep
      refine wpOp_unwanted rfl (by simp [Region.wanted, yielded, *]) ?_
      exact Left.mk0 undef (by first | rfl | simp [updF, *]) HJ.out trivial
    · -- 6: Op.binOp BinOp.neq 30 t86 (const (0:i64)) 30   [guarded: som
      intro σ W HJ hdep
      simp [Region.binds] at hdep
      have HJ := hid HJ
      have eg : σ 3 = .bool true := by first | exact hdep | exact hdep.1 | exact hdep.2 | exact hdep.2.1 | exact hdep.2.2 | exact hdep.2.2.1 | exact hdep.2.2.2
      clear hdep
      refine wpOp_unwanted rfl (by simp [Region.wanted, yielded, *]) ?_
      exact Left.mk0 undef (by first | rfl | simp [updF, *]) HJ.out trivial
    · -- 7: Op.pick t84 (const (Value.bool true)) t87
      intro σ W HJ hdep
      simp [Region.binds] at hdep
      have HJ := hid HJ
      refine wpOp_plain rfl rfl ?_
      go_simp
      exact Left.mk0 (.bool true) (by first | rfl | simp [updF, *]) HJ.out rfl
    · -- 8: Op.move t88
      intro σ W HJ hdep
      simp [Region.binds] at hdep
      have HJ := hid HJ
      refine wpOp_plain rfl rfl ?_
      go_simp
      exact Left.mk0 (.bool true) (by first | rfl | simp [updF, *]) HJ.out rfl
    · -- 9: Op.move t4   [guarded: some (8, false)]
      intro σ W HJ hdep
      simp [Region.binds] at hdep
      have HJ := hid HJ
      have eg : σ 8 = .bool true := by first | exact hdep | exact hdep.1 | exact hdep.2 | exact hdep.2.1 | exact hdep.2.2 | exact hdep.2.2.1 | exact hdep.2.2.2
      clear hdep
      refine wpOp_unwanted rfl (by simp [Region.wanted, yielded, *]) ?_
      exact Left.mk0 undef (by first | rfl | simp [updF, *]) HJ.out trivial
    · -- 10: Op.load 29 t8   [guarded: some (8, false)]
      intro σ W HJ hdep
      simp [Region.binds] at hdep
      have HJ := hid HJ
      have eg : σ 8 = .bool true := by first | exact hdep | exact hdep.1 | exact hdep.2 | exact hdep.2.1 | exact hdep.2.2 | exact hdep.2.2.1 | exact hdep.2.2.2
      clear hdep
      refine wpOp_unwanted rfl (by simp [Region.wanted, yielded, *]) ?_
      exact Left.mk0 undef (by first | rfl | simp [updF, *]) HJ.out trivial
    · -- 11: Op.call { value (Operand.func 23), args := #[t90, t91], argT
      intro σ W HJ hdep
      simp [Region.binds] at hdep
      have HJ := hid HJ
      have eg : σ 8 = .bool true := by first | exact hdep | exact hdep.1 | exact hdep.2 | exact hdep.2.1 | exact hdep.2.2 | exact hdep.2.2.1 | exact hdep.2.2.2
      clear hdep
      refine wpOp_unwanted rfl (by simp [Region.wanted, yielded, *]) ?_
      exact Left.mk0 undef (by first | rfl | simp [updF, *]) HJ.out trivial
    · -- 12: Op.move t4   [guarded: some (8, false)]
      intro σ W HJ hdep
      simp [Region.binds] at hdep
      have HJ := hid HJ
      have eg : σ 8 = .bool true := by first | exact hdep | exact hdep.1 | exact hdep.2 | exact hdep.2.1 | exact hdep.2.2 | exact hdep.2.2.1 | exact hdep.2.2.2
      clear hdep
      refine wpOp_unwanted rfl (by simp [Region.wanted, yielded, *]) ?_
      exact Left.mk0 undef (by first | rfl | simp [updF, *]) HJ.out trivial
    · -- 13: Op.load 29 t8   [guarded: some (8, false)]
      intro σ W HJ hdep
      simp [Region.binds] at hdep
      have HJ := hid HJ
      have eg : σ 8 = .bool true := by first | exact hdep | exact hdep.1 | exact hdep.2 | exact hdep.2.1 | exact hdep.2.2 | exact hdep.2.2.1 | exact hdep.2.2.2
      clear hdep
      refine wpOp_unwanted rfl (by simp [Region.wanted, yielded, *]) ?_
      exact Left.mk0 undef (by first | rfl | simp [updF, *]) HJ.out trivial
    · -- 14: Op.call { value (Operand.func 24), args := #[t93, t94], argT
      intro σ W HJ hdep
      simp [Region.binds] at hdep
      have HJ := hid HJ
      have eg : σ 8 = .bool true := by first | exact hdep | exact hdep.1 | exact hdep.2 | exact hdep.2.1 | exact hdep.2.2 | exact hdep.2.2.1 | exact hdep.2.2.2
      clear hdep
      refine wpOp_unwanted rfl (by simp [Region.wanted, yielded, *]) ?_
      exact Left.mk0 undef (by first | rfl | simp [updF, *]) HJ.out trivial
    · -- 15: Op.binOp BinOp.eql 4 t92 t95 4   [guarded: some (8, false)]
      intro σ W HJ hdep
      simp [Region.binds] at hdep
      have HJ := hid HJ
      have eg : σ 8 = .bool true := by first | exact hdep | exact hdep.1 | exact hdep.2 | exact hdep.2.1 | exact hdep.2.2 | exact hdep.2.2.1 | exact hdep.2.2.2
      clear hdep
      refine wpOp_unwanted rfl (by simp [Region.wanted, yielded, *]) ?_
      exact Left.mk0 undef (by first | rfl | simp [updF, *]) HJ.out trivial
    · -- 16: Op.pick t89 (const (Value.bool true)) t96
      intro σ W HJ hdep
      simp [Region.binds] at hdep
      have HJ := hid HJ
      refine wpOp_plain rfl rfl ?_
      go_simp
      exact Left.mk0 (.bool true) (by first | rfl | simp [updF, *]) HJ.out rfl
    · -- 17: Op.assign t97
      intro σ W HJ hdep
      simp [Region.binds] at hdep
      have HJ := hid HJ
      refine wpOp_plain rfl rfl ?_
      go_simp
      exact Left.mk0 (.bool true) (by first | rfl | simp [updF, *]) HJ.out rfl
  · intro σ w' hb hg
    exact hQ.out σ w' hb (by first | exact ⟨hg 17 (by decide)⟩ | exact hg 17 (by decide))
end Go.Proofs.YtfpngilmdgeikaaDoor
