/-
  What a law's region leaves that plays doings laid anew, with more behind them, in whatever order its steps come: by an invariant.
-/
import Derived.Test.YtgpainbnldghkaaDoorBookApp
namespace Go.Proofs.YtgpainbnldghkaaDoor
open Go.RowKit

def pastRegion4Inv (fr : Value → Value → Value → Value → Value → Value → Value → Value → Value → Value → Value → Value → Value → Array Value) (sa ld0 ld1 : Value) (w3 : World) (qs new : List DgV) (lr : List Dg) (s : Array Bool) (a : Act) (w : World) : Prop :=
  ∃ (bmk0 bsrc bapp bld0 bld1 bmkN bapp2 bplay btup be0 be1 bcell bout bstore : Bool) (xmk0 xsrc xapp xld0 xld1 xmkN xapp2 xplay xtup xe0 xe1 xcell xout vb : Value) (g : Nat), s = #[bmk0, bsrc, bapp, bld0, bld1, bmkN, bapp2, bplay, btup, be0, be1, bcell, bout, bstore] ∧ a = ⟨fr xmk0 xsrc xapp xld0 xld1 xmkN xapp2 xplay xtup xe0 xe1 xcell xout, []⟩ ∧ Hid (Apd w3 qs new lr bmk0 bapp bmkN bapp2 bplay bcell bstore xmk0 xapp xmkN xapp2 xplay xcell vb g w) ∧ Hid (bsrc = true → xsrc = sa) ∧ Hid (bld0 = true → xld0 = ld0) ∧ Hid (bld1 = true → xld1 = ld1) ∧ Hid (btup = true → bplay = true ∧ xtup = xplay) ∧ Hid (be0 = true → btup = true ∧ xe0 = vb) ∧ Hid (be1 = true → btup = true ∧ xe1 = .agg #[.int .i64 (pcode lr).1, .int .i64 ((pcode lr).2 : Int)]) ∧ Hid (bout = true → be0 = true ∧ xout = vb) ∧ Hid (bstore = true → bcell = true)
set_option maxRecDepth 100000 in
set_option maxHeartbeats 4000000 in
theorem pastRegion4 {y1 y2 y3 y6 y7 y8 y11 y12 y13 y14 y15 y16 y17 y18 y19 y20 y21 y22 y23 y24 y25 y26 y38 y39 y40 y41 y42 y43 y44 y45 y46 y47 y48 y49 y50 y51 y52 y53 y54 y55 y56 y57 y58 y59 y60 y61 y62 y63 y64 y65 y66 y67 y68 y69 y70 y71 y72 y73 y74 y75 y76 y77 y78 y79 y80 y81 y82 y83 y84 y85 y86 y87 y88 y89 y90 y91 z28 z29 z30 z31 z32 z33 z34 z35 z27 z36 z37 z10 z9 sa : Value} {B4 B5 : Nat} {w3 : World} (qs : List DgV) (d4 d5 : DgV) (lr : List Dg) (N M : Nat)
    (hlr : Hid (lr = (qs ++ [d5, d4]).map (·.d))) (hsrc : Hid (SrcDg w3 M sa qs)) (hM : M ≤ w3.heap.size) (hN : N ≤ w3.heap.size) (hok : Hid (∀ q ∈ qs ++ [d5, d4], q.ok w3 N)) (hlen : Hid ((qs.length + 2) * 56 ≤ 140737488355328))
    (hbox4 : Hid (Row w3 B4 39 [d4.k, d4.v, .bool d4.d.gone])) (hbox5 : Hid (Row w3 B5 39 [d5.k, d5.v, .bool d5.d.gone])) (Q : Exit → Act → World → Prop)
    (hQ : Hid (∀ (xmk0 xsrc xapp xld0 xld1 xmkN xapp2 xplay xtup xe0 xe1 : Value) (vb : Value) (g : Nat) (w' : World) (ps : List PrV), OwnPr w' 0 vb ps → ps.map (·.p) = pout lr → Row w' g 27 [.int .i64 (pcode lr).1, .int .i64 ((pcode lr).2 : Int)] → w3.heap.size ≤ g → Below w3.heap.size w3 w' → Q .normal ⟨#[sa, y1, y2, y3, .pointer (some ⟨B4, 0, none⟩), .pointer (some ⟨B5, 0, none⟩), y6, y7, y8, vb, (.pointer (some ⟨g, 0, none⟩)), y11, y12, y13, y14, y15, y16, y17, y18, y19, y20, y21, y22, y23, y24, y25, y26, xtup, xmk0, xsrc, xapp, xld0, xld1, xmkN, xapp2, xplay, xe0, xe1, y38, y39, y40, y41, y42, y43, y44, y45, y46, y47, y48, y49, y50, y51, y52, y53, y54, y55, y56, y57, y58, y59, y60, y61, y62, y63, y64, y65, y66, y67, y68, y69, y70, y71, y72, y73, y74, y75, y76, y77, y78, y79, y80, y81, y82, y83, y84, y85, y86, y87, y88, y89, y90, y91], []⟩ w')) :
    Code.wp Tryd.prog (.region 4 (((Tryd.f5.body.bind (regIn 4)).getD #[])) true) Q ⟨#[sa, y1, y2, y3, .pointer (some ⟨B4, 0, none⟩), .pointer (some ⟨B5, 0, none⟩), y6, y7, y8, z9, z10, y11, y12, y13, y14, y15, y16, y17, y18, y19, y20, y21, y22, y23, y24, y25, y26, z27, z28, z29, z30, z31, z32, z33, z34, z35, z36, z37, y38, y39, y40, y41, y42, y43, y44, y45, y46, y47, y48, y49, y50, y51, y52, y53, y54, y55, y56, y57, y58, y59, y60, y61, y62, y63, y64, y65, y66, y67, y68, y69, y70, y71, y72, y73, y74, y75, y76, y77, y78, y79, y80, y81, y82, y83, y84, y85, y86, y87, y88, y89, y90, y91], []⟩ w3 := by
  conv => arg 2; arg 2; whnf
  conv => arg 4; dsimp only
  obtain ⟨new, hnew⟩ : ∃ new : List DgV, new = [d5, d4] := ⟨_, rfl⟩
  have hne : new ≠ [] := by rw [hnew]; simp
  have hnl : new.length = 2 := by rw [hnew]; rfl
  have HOK := hid (show ∀ w', Below w3.heap.size w3 w' → ∀ q ∈ qs ++ new, q.ok w' N from fun w' h q hq => (hok.out q (by rw [← hnew]; exact hq)).below (h.mono hN))
  have HNEW := hid hnew
  clear hnew
  refine region_inv (by kernel_rfl) (pastRegion4Inv (fun xmk0 xsrc xapp xld0 xld1 xmkN xapp2 xplay xtup xe0 xe1 xcell xout => #[sa, y1, y2, y3, .pointer (some ⟨B4, 0, none⟩), .pointer (some ⟨B5, 0, none⟩), y6, y7, y8, xout, xcell, y11, y12, y13, y14, y15, y16, y17, y18, y19, y20, y21, y22, y23, y24, y25, y26, xtup, xmk0, xsrc, xapp, xld0, xld1, xmkN, xapp2, xplay, xe0, xe1, y38, y39, y40, y41, y42, y43, y44, y45, y46, y47, y48, y49, y50, y51, y52, y53, y54, y55, y56, y57, y58, y59, y60, y61, y62, y63, y64, y65, y66, y67, y68, y69, y70, y71, y72, y73, y74, y75, y76, y77, y78, y79, y80, y81, y82, y83, y84, y85, y86, y87, y88, y89, y90, y91]) sa (.agg #[d5.k, d5.v, .bool d5.d.gone]) (.agg #[d4.k, d4.v, .bool d4.d.gone]) w3 qs new lr) ?_ ?_ ?_
  · exact ⟨false, false, false, false, false, false, false, false, false, false, false, false, false, false, z28, z29, z30, z31, z32, z33, z34, z35, z27, z36, z37, z10, z9, undef, 0, rfl, rfl, hid (Apd.start (Below.refl _ _).drew), hid ff, hid ff, hid ff, hid ff, hid ff, hid ff, hid ff, hid ff⟩
  · rintro s a w ⟨bmk0, bsrc, bapp, bld0, bld1, bmkN, bapp2, bplay, btup, be0, be1, bcell, bout, bstore, xmk0, xsrc, xapp, xld0, xld1, xmkN, xapp2, xplay, xtup, xe0, xe1, xcell, xout, vb, g, rfl, rfl, HJ, csrc, cld0, cld1, ctup, ce0, ce1, cout, cst⟩ i hi
    obtain ⟨hl, o, ho, hdep⟩ := mem_ready.1 hi
    have hi13 : i < 14 := (Array.getElem?_eq_some_iff.1 ho).1
    obtain rfl | rfl | rfl | rfl | rfl | rfl | rfl | rfl | rfl | rfl | rfl | rfl | rfl | rfl : i = 0 ∨ i = 1 ∨ i = 2 ∨ i = 3 ∨ i = 4 ∨ i = 5 ∨ i = 6 ∨ i = 7 ∨ i = 8 ∨ i = 9 ∨ i = 10 ∨ i = 11 ∨ i = 12 ∨ i = 13 := by omega
    · -- mk0
      have hb : bmk0 = false := by simpa using hl
      simp at ho
      subst ho
      simp [Region.binds] at hdep
      subst hb
      clear hl hi hi13
      clear hdep
      refine wpOp_of rfl rfl ?_
      go_simp
      exact ⟨true, bsrc, bapp, bld0, bld1, bmkN, bapp2, bplay, btup, be0, be1, bcell, bout, bstore, _, xsrc, xapp, xld0, xld1, xmkN, xapp2, xplay, xtup, xe0, xe1, xcell, xout, vb, g, rfl, rfl, hid HJ.out.s0, csrc, cld0, cld1, ctup, ce0, ce1, cout, cst⟩
    · -- src
      have hb : bsrc = false := by simpa using hl
      simp at ho
      subst ho
      simp [Region.binds] at hdep
      subst hb
      clear hl hi hi13
      clear hdep
      refine wpOp_of rfl rfl ?_
      go_simp
      exact ⟨bmk0, true, bapp, bld0, bld1, bmkN, bapp2, bplay, btup, be0, be1, bcell, bout, bstore, xmk0, _, xapp, xld0, xld1, xmkN, xapp2, xplay, xtup, xe0, xe1, xcell, xout, vb, g, rfl, rfl, HJ, hid (fun _ => rfl), cld0, cld1, ctup, ce0, ce1, cout, cst⟩
    · -- app
      have hb : bapp = false := by simpa using hl
      simp at ho
      subst ho
      simp [Region.binds] at hdep
      subst hb
      clear hl hi hi13
      have e0 : bmk0 = true := by simp [hdep]
      have e1 : bsrc = true := by simp [hdep]
      obtain rfl := (csrc.out e1).symm
      obtain ⟨hk, hx0, hr0, hB0⟩ := HJ.out.f0 e0 rfl
      subst hx0
      refine wpOp_of rfl rfl ?_
      refine wp_append_dgs (.tmp 28) (.tmp 29) rfl w3.heap.size (.slice (some ⟨hk, 0, none⟩) 0 0) [] rfl (rowDg_none hr0 hB0) sa qs rfl (hsrc.out.below (HJ.out.base.mono hM)) (fun q hq => (hok.out q (List.mem_append_left _ hq)).one) (by have := hlen.out; simp; omega) HJ.out.base.size ?_
      intro v2 w2 hr2 hb2 hg2
      exact ⟨bmk0, bsrc, true, bld0, bld1, bmkN, bapp2, bplay, btup, be0, be1, bcell, bout, bstore, (.slice (some ⟨hk, 0, none⟩) 0 0), sa, v2, xld0, xld1, xmkN, xapp2, xplay, xtup, xe0, xe1, xcell, xout, vb, g, rfl, rfl, hid (HJ.out.s2 e0 rfl hne hr2 hb2 hg2), hid (fun _ => rfl), cld0, cld1, ctup, ce0, ce1, cout, cst⟩
    · -- ld0
      have hb : bld0 = false := by simpa using hl
      simp at ho
      subst ho
      simp [Region.binds] at hdep
      subst hb
      clear hl hi hi13
      clear hdep
      have HBX := hid (hbox5.out.below HJ.out.base hbox5.out.lt)
      have k0 := HBX.out.cell 0
      have k1 := HBX.out.cell 1
      have k2 := HBX.out.cell 2
      refine wpOp_of rfl rfl ?_
      go_simp
      exact ⟨bmk0, bsrc, bapp, true, bld1, bmkN, bapp2, bplay, btup, be0, be1, bcell, bout, bstore, xmk0, xsrc, xapp, _, xld1, xmkN, xapp2, xplay, xtup, xe0, xe1, xcell, xout, vb, g, rfl, rfl, HJ, csrc, hid (fun _ => rfl), cld1, ctup, ce0, ce1, cout, cst⟩
    · -- ld1
      have hb : bld1 = false := by simpa using hl
      simp at ho
      subst ho
      simp [Region.binds] at hdep
      subst hb
      clear hl hi hi13
      clear hdep
      have HBX := hid (hbox4.out.below HJ.out.base hbox4.out.lt)
      have k0 := HBX.out.cell 0
      have k1 := HBX.out.cell 1
      have k2 := HBX.out.cell 2
      refine wpOp_of rfl rfl ?_
      go_simp
      exact ⟨bmk0, bsrc, bapp, bld0, true, bmkN, bapp2, bplay, btup, be0, be1, bcell, bout, bstore, xmk0, xsrc, xapp, xld0, _, xmkN, xapp2, xplay, xtup, xe0, xe1, xcell, xout, vb, g, rfl, rfl, HJ, csrc, cld0, hid (fun _ => rfl), ctup, ce0, ce1, cout, cst⟩
    · -- mkN
      have hb : bmkN = false := by simpa using hl
      simp at ho
      subst ho
      simp [Region.binds] at hdep
      subst hb
      clear hl hi hi13
      have e0 := hid (show bld0 = true by simp [hdep])
      have e1 := hid (show bld1 = true by simp [hdep])
      obtain rfl := cld0.out e0.out
      obtain rfl := cld1.out e1.out
      clear hdep
      refine wpOp_of rfl rfl ?_
      go_simp
      exact ⟨bmk0, bsrc, bapp, bld0, bld1, true, bapp2, bplay, btup, be0, be1, bcell, bout, bstore, xmk0, xsrc, xapp, _, _, _, xapp2, xplay, xtup, xe0, xe1, xcell, xout, vb, g, rfl, rfl, hid (HJ.out.s4 _ (by rw [HNEW.out]; rfl) _ hnl.symm), csrc, hid (fun _ => rfl), hid (fun _ => rfl), ctup, ce0, ce1, cout, cst⟩
    · -- app2
      have hb : bapp2 = false := by simpa using hl
      simp at ho
      subst ho
      simp [Region.binds] at hdep
      subst hb
      clear hl hi hi13
      have e2 : bapp = true := by simp [hdep]
      have e4 : bmkN = true := by simp [hdep]
      obtain ⟨hk, hx4, hr4⟩ := HJ.out.f4 e4 rfl
      subst hx4
      refine wpOp_of rfl rfl ?_
      refine wp_append_dgs (.tmp 30) (.tmp 33) rfl w3.heap.size xapp qs rfl (HJ.out.f2 e2 rfl) (.slice (some ⟨hk, 0, none⟩) new.length new.length) new rfl (srcDg_row hr4) (fun q hq => (HOK.out w3 (Below.refl _ _) q (List.mem_append_right _ hq)).one) (by have := hlen.out; rw [hnl]; exact this) HJ.out.base.size ?_
      intro v5 w5 hr5 hb5 hg5
      exact ⟨bmk0, bsrc, bapp, bld0, bld1, bmkN, true, bplay, btup, be0, be1, bcell, bout, bstore, xmk0, xsrc, xapp, xld0, xld1, (.slice (some ⟨hk, 0, none⟩) new.length new.length), v5, xplay, xtup, xe0, xe1, xcell, xout, vb, g, rfl, rfl, hid (HJ.out.s5 e2 e4 rfl hr5 hb5 hg5), csrc, cld0, cld1, ctup, ce0, ce1, cout, cst⟩
    · -- play
      have hb : bplay = false := by simpa using hl
      simp at ho
      subst ho
      simp [Region.binds] at hdep
      subst hb
      clear hl hi hi13
      have e5 := hid (show bapp2 = true by simp [hdep])
      clear hdep
      have HPL := hid (playO lr xapp2 w.heap.size w (by rw [hlr.out, ← HNEW.out]; exact (HJ.out.f5 e5.out rfl).doings (Nat.le_trans hN HJ.out.base.size) (HOK.out w HJ.out.base)) (Nat.le_refl _) (by have := hlen.out; rw [hlr.out]; simp; omega))
      refine wpOp_of rfl rfl ?_
      go_simp
      refine HPL.out.mono ?_
      rintro e w6 ⟨hb6, v6, rfl, ps, hown6, hmap6⟩
      unfold faultV
      exact ⟨bmk0, bsrc, bapp, bld0, bld1, bmkN, bapp2, true, btup, be0, be1, bcell, bout, bstore, xmk0, xsrc, xapp, xld0, xld1, xmkN, xapp2, _, xtup, xe0, xe1, xcell, xout, v6, g, rfl, rfl, hid (HJ.out.s6 e5.out hb6 hown6 hmap6), csrc, cld0, cld1, hid (fun e => ff (ctup.out e).1), hid (fun e => ff (ctup.out (ce0.out e).1).1), ce1, hid (fun e => ff (ctup.out (ce0.out (cout.out e).1).1).1), cst⟩
    · -- tup
      have hb : btup = false := by simpa using hl
      simp at ho
      subst ho
      simp [Region.binds] at hdep
      subst hb
      clear hl hi hi13
      have e6 := hid (show bplay = true by simp [hdep])
      clear hdep
      refine wpOp_of rfl rfl ?_
      go_simp
      exact ⟨bmk0, bsrc, bapp, bld0, bld1, bmkN, bapp2, bplay, true, be0, be1, bcell, bout, bstore, xmk0, xsrc, xapp, xld0, xld1, xmkN, xapp2, xplay, _, xe0, xe1, xcell, xout, vb, g, rfl, rfl, HJ, csrc, cld0, cld1, hid (fun _ => ⟨e6.out, rfl⟩), hid (fun e => ⟨rfl, (ce0.out e).2⟩), hid (fun e => ⟨rfl, (ce1.out e).2⟩), cout, cst⟩
    · -- e0
      have hb : be0 = false := by simpa using hl
      simp at ho
      subst ho
      simp [Region.binds] at hdep
      subst hb
      clear hl hi hi13
      have e7 := hid (show btup = true by simp [hdep])
      clear hdep
      obtain ⟨e6, hxt⟩ := ctup.out e7.out
      subst hxt
      obtain ⟨hx6, hps⟩ := HJ.out.f6 e6
      subst hx6
      have E6 := hid e6
      clear e6 hps
      refine wpOp_of rfl rfl ?_
      go_simp
      exact ⟨bmk0, bsrc, bapp, bld0, bld1, bmkN, bapp2, bplay, btup, true, be1, bcell, bout, bstore, xmk0, xsrc, xapp, xld0, xld1, xmkN, xapp2, _, _, _, xe1, xcell, xout, vb, g, rfl, rfl, HJ, csrc, cld0, cld1, hid (fun _ => ⟨E6.out, rfl⟩), hid (fun _ => ⟨e7.out, rfl⟩), ce1, hid (fun e => ⟨rfl, (cout.out e).2⟩), cst⟩
    · -- e1
      have hb : be1 = false := by simpa using hl
      simp at ho
      subst ho
      simp [Region.binds] at hdep
      subst hb
      clear hl hi hi13
      have e7 := hid (show btup = true by simp [hdep])
      clear hdep
      obtain ⟨e6, hxt⟩ := ctup.out e7.out
      subst hxt
      obtain ⟨hx6, hps⟩ := HJ.out.f6 e6
      subst hx6
      have E6 := hid e6
      clear e6 hps
      refine wpOp_of rfl rfl ?_
      go_simp
      exact ⟨bmk0, bsrc, bapp, bld0, bld1, bmkN, bapp2, bplay, btup, be0, true, bcell, bout, bstore, xmk0, xsrc, xapp, xld0, xld1, xmkN, xapp2, _, _, xe0, _, xcell, xout, vb, g, rfl, rfl, HJ, csrc, cld0, cld1, hid (fun _ => ⟨E6.out, rfl⟩), ce0, hid (fun _ => ⟨e7.out, rfl⟩), cout, cst⟩
    · -- cell
      have hb : bcell = false := by simpa using hl
      simp at ho
      subst ho
      simp [Region.binds] at hdep
      subst hb
      clear hl hi hi13
      have ebc : bstore = false := by
        cases hh : bstore with
        | false => rfl
        | true => exact ff (cst.out hh)
      subst ebc
      clear hdep
      refine wpOp_of rfl rfl ?_
      go_simp
      exact ⟨bmk0, bsrc, bapp, bld0, bld1, bmkN, bapp2, bplay, btup, be0, be1, true, bout, false, xmk0, xsrc, xapp, xld0, xld1, xmkN, xapp2, xplay, xtup, xe0, xe1, _, xout, vb, _, rfl, rfl, hid (HJ.out.sa rfl), csrc, cld0, cld1, ctup, ce0, ce1, cout, hid ff⟩
    · -- out
      have hb : bout = false := by simpa using hl
      simp at ho
      subst ho
      simp [Region.binds] at hdep
      subst hb
      clear hl hi hi13
      have e8 := hid (show be0 = true by simp [hdep])
      clear hdep
      obtain ⟨e7, hx8⟩ := ce0.out e8.out
      obtain rfl := hx8.symm
      have E7 := hid e7
      clear e7
      refine wpOp_of rfl rfl ?_
      go_simp
      exact ⟨bmk0, bsrc, bapp, bld0, bld1, bmkN, bapp2, bplay, btup, be0, be1, bcell, true, bstore, xmk0, xsrc, xapp, xld0, xld1, xmkN, xapp2, xplay, xtup, _, xe1, xcell, _, vb, g, rfl, rfl, HJ, csrc, cld0, cld1, ctup, hid (fun _ => ⟨E7.out, rfl⟩), ce1, hid (fun _ => ⟨e8.out, rfl⟩), cst⟩
    · -- store
      have hb : bstore = false := by simpa using hl
      simp at ho
      subst ho
      simp [Region.binds] at hdep
      subst hb
      clear hl hi hi13
      have ea := hid (show bcell = true by simp [hdep])
      have ee := hid (show be1 = true by simp [hdep])
      clear hdep
      obtain ⟨e7, rfl⟩ := ce1.out ee.out
      have e6 := hid (ctup.out e7).1
      have E7 := hid e7
      clear e7
      obtain ⟨hxa, hgb, hrow⟩ := HJ.out.fa ea.out
      rw [if_neg (by decide)] at hrow
      subst hxa
      obtain ⟨c0, c1, z0, z1⟩ := hrow.two
      refine wpOp_of rfl rfl ?_
      go_simp
      exact ⟨bmk0, bsrc, bapp, bld0, bld1, bmkN, bapp2, bplay, btup, be0, be1, bcell, bout, true, xmk0, xsrc, xapp, xld0, xld1, xmkN, xapp2, xplay, xtup, xe0, _, _, xout, vb, g, rfl, rfl, hid (HJ.out.sc ea.out e6.out rfl), csrc, cld0, cld1, ctup, ce0, hid (fun _ => ⟨E7.out, rfl⟩), cout, hid (fun _ => ea.out)⟩
  · rintro s a w ⟨bmk0, bsrc, bapp, bld0, bld1, bmkN, bapp2, bplay, btup, be0, be1, bcell, bout, bstore, xmk0, xsrc, xapp, xld0, xld1, xmkN, xapp2, xplay, xtup, xe0, xe1, xcell, xout, vb, g, rfl, rfl, HJ, csrc, cld0, cld1, ctup, ce0, ce1, cout, cst⟩ hr
    have key : ∀ k o, (_ : Array Oper)[k]? = some o → (#[bmk0, bsrc, bapp, bld0, bld1, bmkN, bapp2, bplay, btup, be0, be1, bcell, bout, bstore] : Array Bool).getD k true = false → (∀ e ∈ o.after, Region.binds .any e = true → (#[bmk0, bsrc, bapp, bld0, bld1, bmkN, bapp2, bplay, btup, be0, be1, bcell, bout, bstore] : Array Bool).getD e.on false = true) → False := fun k o h1 h2 h3 => by
      have h4 := mem_ready.2 ⟨h2, o, h1, h3⟩
      rw [hr] at h4
      cases h4
    have tmk0 : bmk0 = true := by
      cases hb : bmk0 with
      | true => rfl
      | false => exact (key 0 _ rfl (by simpa using hb) (by simp [Region.binds])).elim
    have tsrc : bsrc = true := by
      cases hb : bsrc with
      | true => rfl
      | false => exact (key 1 _ rfl (by simpa using hb) (by simp [Region.binds, tmk0])).elim
    have tapp : bapp = true := by
      cases hb : bapp with
      | true => rfl
      | false => exact (key 2 _ rfl (by simpa using hb) (by simp [Region.binds, tmk0, tsrc])).elim
    have tld0 : bld0 = true := by
      cases hb : bld0 with
      | true => rfl
      | false => exact (key 3 _ rfl (by simpa using hb) (by simp [Region.binds, tmk0, tsrc, tapp])).elim
    have tld1 : bld1 = true := by
      cases hb : bld1 with
      | true => rfl
      | false => exact (key 4 _ rfl (by simpa using hb) (by simp [Region.binds, tmk0, tsrc, tapp, tld0])).elim
    have tmkN : bmkN = true := by
      cases hb : bmkN with
      | true => rfl
      | false => exact (key 5 _ rfl (by simpa using hb) (by simp [Region.binds, tmk0, tsrc, tapp, tld0, tld1])).elim
    have tapp2 : bapp2 = true := by
      cases hb : bapp2 with
      | true => rfl
      | false => exact (key 6 _ rfl (by simpa using hb) (by simp [Region.binds, tmk0, tsrc, tapp, tld0, tld1, tmkN])).elim
    have tplay : bplay = true := by
      cases hb : bplay with
      | true => rfl
      | false => exact (key 7 _ rfl (by simpa using hb) (by simp [Region.binds, tmk0, tsrc, tapp, tld0, tld1, tmkN, tapp2])).elim
    have ttup : btup = true := by
      cases hb : btup with
      | true => rfl
      | false => exact (key 8 _ rfl (by simpa using hb) (by simp [Region.binds, tmk0, tsrc, tapp, tld0, tld1, tmkN, tapp2, tplay])).elim
    have te0 : be0 = true := by
      cases hb : be0 with
      | true => rfl
      | false => exact (key 9 _ rfl (by simpa using hb) (by simp [Region.binds, tmk0, tsrc, tapp, tld0, tld1, tmkN, tapp2, tplay, ttup])).elim
    have te1 : be1 = true := by
      cases hb : be1 with
      | true => rfl
      | false => exact (key 10 _ rfl (by simpa using hb) (by simp [Region.binds, tmk0, tsrc, tapp, tld0, tld1, tmkN, tapp2, tplay, ttup, te0])).elim
    have tcell : bcell = true := by
      cases hb : bcell with
      | true => rfl
      | false => exact (key 11 _ rfl (by simpa using hb) (by simp [Region.binds, tmk0, tsrc, tapp, tld0, tld1, tmkN, tapp2, tplay, ttup, te0, te1])).elim
    have tout : bout = true := by
      cases hb : bout with
      | true => rfl
      | false => exact (key 12 _ rfl (by simpa using hb) (by simp [Region.binds, tmk0, tsrc, tapp, tld0, tld1, tmkN, tapp2, tplay, ttup, te0, te1, tcell])).elim
    have tstore : bstore = true := by
      cases hb : bstore with
      | true => rfl
      | false => exact (key 13 _ rfl (by simpa using hb) (by simp [Region.binds, tmk0, tsrc, tapp, tld0, tld1, tmkN, tapp2, tplay, ttup, te0, te1, tcell, tout])).elim
    obtain ⟨hx6, ps, hown, hmap⟩ := HJ.out.f6 tplay
    obtain ⟨hxa, hgb, hrow⟩ := HJ.out.fa tcell
    rw [if_pos tstore] at hrow
    obtain ⟨_, hxo⟩ := cout.out tout
    subst hxa
    subst hxo
    exact hQ.out _ _ _ _ _ _ _ _ _ _ _ _ g w ps hown hmap hrow hgb HJ.out.base
end Go.Proofs.YtgpainbnldghkaaDoor
