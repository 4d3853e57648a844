/-
  ClientTells returns true, whatever a client, what is known of a block, two updates and a time read as.
-/
import Derived.Test.YtiflkkelbnpniaaGreatDoorClRFol
import Derived.Test.YtiflkkelbnpniaaGreatDoorClRCatch
import Derived.Test.YtiflkkelbnpniaaGreatDoorClRNew
import Derived.Test.YtiflkkelbnpniaaGreatDoorClSame
import Derived.Test.YtiflkkelbnpniaaGreatDoorRegions
namespace Go.Proofs.YtiflkkelbnpniaaGreatDoor
open Go.RowKit

theorem wpOp_wantsT {P : Program} {ops : Array Oper} {Q : Exit → Act → World → Prop} {i : Nat} {o : Oper} {K : Act → World → Prop} {a : Act} {w : World} (ho : ops[i]? = some o) (hw : Region.wanted o (yielded ops a.tmps) = true) (h : o.wp P a w K Q) : wpOp P ops Q i K a w := by
  unfold wpOp
  rw [ho]
  simp only [hw, if_true]
  exact .inl h
theorem wpOp_unwantedT {P : Program} {ops : Array Oper} {Q : Exit → Act → World → Prop} {i : Nat} {o : Oper} {K : Act → World → Prop} {a : Act} {w : World} (ho : ops[i]? = some o) (hw : Region.wanted o (yielded ops a.tmps) = false) (h : K (a.put o.dst undef) w) : wpOp P ops Q i K a w := by
  unfold wpOp
  rw [ho]
  simp only [hw]
  exact h
theorem row_kept {w w' : World} {g : Nat} {t : TypeId} {cs : List Value} (h : Row w g t cs) (e : w'.heap[g]? = w.heap[g]?) : Row w' g t cs := by
  unfold Row at *
  rw [e]
  exact h
/-- a client's row is no row of bytes, and none of what is known -/
theorem Bytes.onlyCl {w w' : World} {N g : Nat} {t : TypeId} {s : ByteArray} {z : Int} {f : Bool} {o : Option Addr} {n m : Nat} {sv : Value} {l : List (BitVec 8)} (h : Bytes w N sv l) (hr : Row w g t [.string s, .int .i64 z, .bool f, .slice o n m]) (ho : ∀ k, k ≠ g → w'.heap[k]? = w.heap[k]?) : Bytes w' N sv l := by
  rcases h with h | h | ⟨b, off, cap, h1, h2, h3⟩
  · exact .inl h
  · exact .inr (.inl h)
  · refine .inr (.inr ⟨b, off, cap, h1, h2, fun i hi => ⟨(h3 i hi).1, ?_⟩⟩)
    have hc := (h3 i hi).2
    have hb : b ≠ g := by
      rintro rfl
      rw [hr.cell] at hc
      have := List.mem_of_getElem? hc
      simp [b8] at this
    rw [← hc]
    exact World.cell?_of_block (ho b hb)
theorem Knowns.onlyCl {w w' : World} {N g : Nat} {t : TypeId} {s : ByteArray} {z : Int} {f : Bool} {o : Option Addr} {n m : Nat} {sv : Value} {l : List Kn} (h : Knowns w N sv l) (hr : Row w g t [.string s, .int .i64 z, .bool f, .slice o n m]) (ho : ∀ k, k ≠ g → w'.heap[k]? = w.heap[k]?) : Knowns w' N sv l := by
  obtain ⟨ps, h1, h2, h3⟩ := h
  refine ⟨ps, h1, ?_, fun q hq => ⟨(h3 q hq).1.onlyCl hr ho, (h3 q hq).2.onlyCl hr ho⟩⟩
  rcases h2 with h | h | ⟨b, off, cap, e1, e2, e3⟩
  · exact .inl h
  · exact .inr (.inl h)
  · refine .inr (.inr ⟨b, off, cap, e1, e2, fun i r hir => ⟨(e3 i r hir).1, fun j x hx => ?_⟩⟩)
    have hb : b ≠ g := by
      rintro rfl
      have hc := (e3 i r hir).2
      obtain ⟨q, _, rfl⟩ := List.mem_map.1 (List.mem_of_getElem? hir)
      have c0 := hc 0 _ rfl
      have c3 := hc 3 _ rfl
      rw [hr.cell] at c0 c3
      have l3 := (List.getElem?_eq_some_iff.1 c3).1
      simp only [List.length_cons, List.length_nil] at l3
      rw [show off + i * 4 + 0 = 0 by omega] at c0
      simp at c0
    rw [← (e3 i r hir).2 j x hx]
    exact World.cell?_of_block (ho b hb)
theorem newR_fits {ch : ByteArray} {tr : Int} {k : Kn} (h1 : ch.size ≤ 140737488351232) (h2 : k.fits) : (newR ch tr k).fits := by
  unfold newR
  split
  · exact ⟨h1, by simp [newC], fun x hx => by simp [newC] at hx; rw [hx]; exact h2⟩
  · exact Cl.none_fits
theorem catchC_fits {c : Cl} {a b : Up} {now : Int} (h : c.fits) : (catchC c a b now).fits := by
  unfold catchC
  split
  · exact h
  · exact Cl.none_fits
set_option maxRecDepth 100000 in
set_option maxHeartbeats 4000000 in
theorem tellsR1 {y0 y1 y2 y3 y6 y7 y8 y9 y10 y11 y12 y13 y14 y20 y21 y22 y23 y24 y25 y26 y27 y28 y29 y30 y31 y32 y33 y34 y35 y36 y37 y38 y39 y40 y41 y42 y43 y44 y45 y46 y47 y48 y49 y50 y51 y52 y53 y54 y55 y56 y57 y58 y59 y60 y61 y62 y63 y64 y65 y66 y67 y68 y69 y70 y71 y72 y73 y74 y75 y76 y77 y78 y79 y80 y81 y82 y83 y84 y85 y86 y87 y88 y89 y90 y91 y92 y93 y94 y95 y96 y97 y98 y99 y100 y101 y102 y103 y104 y105 y106 y107 y108 y109 z15 z16 z17 z18 z19 : Value} {gc N : Nat} (c : Cl) (now : Int) (oa : Option Addr) (ca : Nat) {w : World} (hN : N ≤ w.heap.size) (hrc : Hid (Row w gc 24 [.string c.chain, .int .i64 c.trust, .bool c.frozen, .slice oa c.known.length ca])) (hcv : Hid (ClV w N (.agg #[.string c.chain, .int .i64 c.trust, .bool c.frozen, .slice oa c.known.length ca]) c)) (hcf : Hid c.fits) (Q : Exit → Act → World → Prop)
    (hQ : Hid (∀ (σ : Nat → Value) (w' : World), Below w.heap.size w w' → /-4-/ σ 4 = .bool false → Q .normal ⟨#[y0, y1, y2, y3, .int .i64 now, .pointer (some ⟨gc, 0, none⟩), y6, y7, y8, y9, y10, y11, y12, y13, y14, σ 0, σ 1, σ 2, σ 3, σ 4, y20, y21, y22, y23, y24, y25, y26, y27, y28, y29, y30, y31, y32, y33, y34, y35, y36, y37, y38, y39, y40, y41, y42, y43, y44, y45, y46, y47, y48, y49, y50, y51, y52, y53, y54, y55, y56, y57, y58, y59, y60, y61, y62, y63, y64, y65, y66, y67, y68, y69, y70, y71, y72, y73, y74, y75, y76, y77, y78, y79, y80, y81, y82, y83, y84, y85, y86, y87, y88, y89, y90, y91, y92, y93, y94, y95, y96, y97, y98, y99, y100, y101, y102, y103, y104, y105, y106, y107, y108, y109], []⟩ w')) :
    Code.wp Tryz.prog (.region 1 ((Tryz.f3.body.bind (regOf 1)).getD #[]) true) Q ⟨#[y0, y1, y2, y3, .int .i64 now, .pointer (some ⟨gc, 0, none⟩), y6, y7, y8, y9, y10, y11, y12, y13, y14, z15, z16, z17, z18, z19, y20, y21, y22, y23, y24, y25, y26, y27, y28, y29, y30, y31, y32, y33, y34, y35, y36, y37, y38, y39, y40, y41, y42, y43, y44, y45, y46, y47, y48, y49, y50, y51, y52, y53, y54, y55, y56, y57, y58, y59, y60, y61, y62, y63, y64, y65, y66, y67, y68, y69, y70, y71, y72, y73, y74, y75, y76, y77, y78, y79, y80, y81, y82, y83, y84, y85, y86, y87, y88, y89, y90, y91, y92, y93, y94, y95, y96, y97, y98, y99, y100, y101, y102, y103, y104, y105, y106, y107, y108, y109], []⟩ w := by
  conv => arg 2; arg 2; whnf
  conv => arg 4; dsimp only
  refine region_grows (by kernel_rfl) (fun σ => #[y0, y1, y2, y3, .int .i64 now, .pointer (some ⟨gc, 0, none⟩), y6, y7, y8, y9, y10, y11, y12, y13, y14, σ 0, σ 1, σ 2, σ 3, σ 4, y20, y21, y22, y23, y24, y25, y26, y27, y28, y29, y30, y31, y32, y33, y34, y35, y36, y37, y38, y39, y40, y41, y42, y43, y44, y45, y46, y47, y48, y49, y50, y51, y52, y53, y54, y55, y56, y57, y58, y59, y60, y61, y62, y63, y64, y65, y66, y67, y68, y69, y70, y71, y72, y73, y74, y75, y76, y77, y78, y79, y80, y81, y82, y83, y84, y85, y86, y87, y88, y89, y90, y91, y92, y93, y94, y95, y96, y97, y98, y99, y100, y101, y102, y103, y104, y105, y106, y107, y108, y109]) (fun i => ([z15, z16, z17, z18, z19] : List Value).getD i undef) rfl (fun i X W => match i with
    | 0 => X = .agg #[.string c.chain, .int .i64 c.trust, .bool c.frozen, .slice oa c.known.length ca]
    | 1 => X = .int .i64 (wrongCl c)
    | 2 => X = .agg #[.string c.chain, .int .i64 c.trust, .bool c.frozen, .slice oa c.known.length ca]
    | 3 => X = .int .i64 (wrongCl c)
    | 4 => X = .bool false
    | _ => True) ?_ (by kernel_rfl) ?_ ?_
  · intro i X W W' HB H
    match i, H with
    | 0, H => exact H
    | 1, H => exact H
    | 2, H => exact H
    | 3, H => exact H
    | 4, H => exact H
    | _ + 5, _ => exact trivial
  · refine ⟨?_, ?_, ?_, ?_, ?_, trivial⟩
    · -- 0: Op.load 24 t5
      intro σ W HJ hdep
      simp [Region.binds] at hdep
      have HJ := hid HJ
      have k0 := (hrc.out.below HJ.out hrc.out.lt).cell 0
      have k1 := (hrc.out.below HJ.out hrc.out.lt).cell 1
      have k2 := (hrc.out.below HJ.out hrc.out.lt).cell 2
      have k3 := (hrc.out.below HJ.out hrc.out.lt).cell 3
      simp at k0
      simp at k1
      simp at k2
      simp at k3
      refine wpOp_plain rfl rfl ?_
      go_simp
      exact Left.mk0 (.agg #[.string c.chain, .int .i64 c.trust, .bool c.frozen, .slice oa c.known.length ca]) (by first | rfl | simp [updF, *]) HJ.out rfl
    · -- 1: Op.call { value (Operand.func 5), args := #[t15], argTypes :
      intro σ W HJ hdep
      simp [Region.binds] at hdep
      have HJ := hid HJ
      have HC := hid (clWrongC c (.agg #[.string c.chain, .int .i64 c.trust, .bool c.frozen, .slice oa c.known.length ca]) N W (hcv.out.below (HJ.out.mono hN)) (Nat.le_trans hN HJ.out.size) hcf.out)
      refine wpOp_plain rfl rfl ?_
      go_simp
      refine (HC.out).mono ?_
      rintro e w2 ⟨rfl, hb2⟩
      exact Left.mk (.int .i64 (wrongCl c)) (by first | rfl | simp [updF, *]) hb2 HJ.out rfl
    · -- 2: Op.load 24 t5
      intro σ W HJ hdep
      simp [Region.binds] at hdep
      have HJ := hid HJ
      have k0 := (hrc.out.below HJ.out hrc.out.lt).cell 0
      have k1 := (hrc.out.below HJ.out hrc.out.lt).cell 1
      have k2 := (hrc.out.below HJ.out hrc.out.lt).cell 2
      have k3 := (hrc.out.below HJ.out hrc.out.lt).cell 3
      simp at k0
      simp at k1
      simp at k2
      simp at k3
      refine wpOp_plain rfl rfl ?_
      go_simp
      exact Left.mk0 (.agg #[.string c.chain, .int .i64 c.trust, .bool c.frozen, .slice oa c.known.length ca]) (by first | rfl | simp [updF, *]) HJ.out rfl
    · -- 3: Op.call { value (Operand.func 6), args := #[t17], argTypes :
      intro σ W HJ hdep
      simp [Region.binds] at hdep
      have HJ := hid HJ
      have HC := hid (refClWrongC c (.agg #[.string c.chain, .int .i64 c.trust, .bool c.frozen, .slice oa c.known.length ca]) N W (hcv.out.below (HJ.out.mono hN)) (Nat.le_trans hN HJ.out.size) hcf.out)
      refine wpOp_plain rfl rfl ?_
      go_simp
      refine (HC.out).mono ?_
      rintro e w2 ⟨rfl, hb2⟩
      exact Left.mk (.int .i64 (wrongCl c)) (by first | rfl | simp [updF, *]) hb2 HJ.out rfl
    · -- 4: Op.binOp BinOp.neq 36 t16 t18 36
      intro σ W HJ hdep
      simp [Region.binds] at hdep
      have HJ := hid HJ
      obtain ⟨e1, e3⟩ : σ 1 = .int .i64 (wrongCl c) ∧ σ 3 = .int .i64 (wrongCl c) := by first | exact hdep | exact ⟨hdep.1, hdep.2.1⟩
      have eb : (wrongCl c != wrongCl c) = false := by simp
      refine wpOp_plain rfl rfl ?_
      go_simp
      exact Left.mk0 (.bool false) (by first | rfl | simp [updF, *]) HJ.out rfl
  · intro σ w' hb hg
    exact hQ.out σ w' hb (by first | exact ⟨hg 4 (by decide)⟩ | exact hg 4 (by decide))
set_option maxRecDepth 100000 in
set_option maxHeartbeats 4000000 in
theorem tellsR7tt {y0 y1 y2 y3 y6 y7 y8 y9 y10 y11 y12 y13 y14 y15 y16 y17 y18 y19 y20 y21 y22 y23 y24 y25 y26 y27 y28 y29 y30 y31 y32 y33 y34 y35 y36 y37 y38 y39 y40 y41 y42 y43 y44 y45 y46 y63 y64 y65 y66 y67 y68 y69 y70 y71 y72 y73 y74 y75 y76 y77 y78 y79 y80 y81 y82 y83 y84 y85 y86 y87 y88 y89 y90 y91 y92 y93 y94 y95 y96 y97 y98 y99 y100 y101 y102 y103 y104 y105 y106 y107 y108 y109 z47 z48 z49 z50 z51 z52 z53 z54 z55 z56 z57 z58 z59 z60 z61 z62 : Value} {gc N : Nat} (c : Cl) (now : Int) (oa : Option Addr) (ca : Nat) {w : World} (hN : N ≤ w.heap.size) (hrc : Hid (Row w gc 24 [.string c.chain, .int .i64 c.trust, .bool c.frozen, .slice oa c.known.length ca])) (hcv : Hid (ClV w N (.agg #[.string c.chain, .int .i64 c.trust, .bool c.frozen, .slice oa c.known.length ca]) c)) (hcf : Hid c.fits) (hab : (wrongCl c == 0) = true) (htb : Hid (timeN now = true)) (hw0 : Hid (wrongCl c = 0)) (hnow : Hid (0 ≤ now ∧ now ≤ 1000000000000)) (Q : Exit → Act → World → Prop)
    (hQ : Hid (∀ (σ : Nat → Value) (w' : World), Below w.heap.size w w' → /-15-/ σ 15 = .bool false → Q .normal ⟨#[y0, y1, y2, y3, .int .i64 now, .pointer (some ⟨gc, 0, none⟩), y6, y7, y8, y9, y10, y11, y12, y13, y14, y15, y16, y17, y18, y19, y20, y21, y22, y23, y24, y25, y26, y27, y28, y29, y30, y31, y32, y33, y34, y35, y36, y37, y38, y39, y40, y41, y42, y43, y44, y45, y46, σ 0, σ 1, σ 2, σ 3, σ 4, σ 5, σ 6, σ 7, σ 8, σ 9, σ 10, σ 11, σ 12, σ 13, σ 14, σ 15, y63, y64, y65, y66, y67, y68, y69, y70, y71, y72, y73, y74, y75, y76, y77, y78, y79, y80, y81, y82, y83, y84, y85, y86, y87, y88, y89, y90, y91, y92, y93, y94, y95, y96, y97, y98, y99, y100, y101, y102, y103, y104, y105, y106, y107, y108, y109], []⟩ w')) :
    Code.wp Tryz.prog (.region 7 ((Tryz.f3.body.bind (regOf 7)).getD #[]) true) Q ⟨#[y0, y1, y2, y3, .int .i64 now, .pointer (some ⟨gc, 0, none⟩), y6, y7, y8, y9, y10, y11, y12, y13, y14, y15, y16, y17, y18, y19, y20, y21, y22, y23, y24, y25, y26, y27, y28, y29, y30, y31, y32, y33, y34, y35, y36, y37, y38, y39, y40, y41, y42, y43, y44, y45, y46, z47, z48, z49, z50, z51, z52, z53, z54, z55, z56, z57, z58, z59, z60, z61, z62, y63, y64, y65, y66, y67, y68, y69, y70, y71, y72, y73, y74, y75, y76, y77, y78, y79, y80, y81, y82, y83, y84, y85, y86, y87, y88, y89, y90, y91, y92, y93, y94, y95, y96, y97, y98, y99, y100, y101, y102, y103, y104, y105, y106, y107, y108, y109], []⟩ w := by
  conv => arg 2; arg 2; whnf
  conv => arg 4; dsimp only
  refine region_grows (by kernel_rfl) (fun σ => #[y0, y1, y2, y3, .int .i64 now, .pointer (some ⟨gc, 0, none⟩), y6, y7, y8, y9, y10, y11, y12, y13, y14, y15, y16, y17, y18, y19, y20, y21, y22, y23, y24, y25, y26, y27, y28, y29, y30, y31, y32, y33, y34, y35, y36, y37, y38, y39, y40, y41, y42, y43, y44, y45, y46, σ 0, σ 1, σ 2, σ 3, σ 4, σ 5, σ 6, σ 7, σ 8, σ 9, σ 10, σ 11, σ 12, σ 13, σ 14, σ 15, y63, y64, y65, y66, y67, y68, y69, y70, y71, y72, y73, y74, y75, y76, y77, y78, y79, y80, y81, y82, y83, y84, y85, y86, y87, y88, y89, y90, y91, y92, y93, y94, y95, y96, y97, y98, y99, y100, y101, y102, y103, y104, y105, y106, y107, y108, y109]) (fun i => ([z47, z48, z49, z50, z51, z52, z53, z54, z55, z56, z57, z58, z59, z60, z61, z62] : List Value).getD i undef) rfl (fun i X W => match i with
    | 0 => X = .agg #[.string c.chain, .int .i64 c.trust, .bool c.frozen, .slice oa c.known.length ca]
    | 1 => X = .int .i64 (wrongCl c)
    | 2 => X = .bool true
    | 3 => X = .bool true
    | 4 => X = .int .i64 now
    | 5 => X = .bool true
    | 6 => X = .bool true
    | 7 => X = .bool true
    | 8 => X = .agg #[.string c.chain, .int .i64 c.trust, .bool c.frozen, .slice oa c.known.length ca]
    | 9 => X = .int .i64 now
    | 10 => X = .bool (activeB c now)
    | 11 => X = .agg #[.string c.chain, .int .i64 c.trust, .bool c.frozen, .slice oa c.known.length ca]
    | 12 => X = .int .i64 now
    | 13 => X = .bool (activeB c now)
    | 14 => X = .bool false
    | 15 => X = .bool false
    | _ => True) ?_ (by kernel_rfl) ?_ ?_
  · intro i X W W' HB H
    match i, H with
    | 0, H => exact H
    | 1, H => exact H
    | 2, H => exact H
    | 3, H => exact H
    | 4, H => exact H
    | 5, H => exact H
    | 6, H => exact H
    | 7, H => exact H
    | 8, H => exact H
    | 9, H => exact H
    | 10, H => exact H
    | 11, H => exact H
    | 12, H => exact H
    | 13, H => exact H
    | 14, H => exact H
    | 15, H => exact H
    | _ + 16, _ => exact trivial
  · refine ⟨?_, ?_, ?_, ?_, ?_, ?_, ?_, ?_, ?_, ?_, ?_, ?_, ?_, ?_, ?_, ?_, trivial⟩
    · -- 0: Op.load 24 t5
      intro σ W HJ hdep
      simp [Region.binds] at hdep
      have HJ := hid HJ
      have k0 := (hrc.out.below HJ.out hrc.out.lt).cell 0
      have k1 := (hrc.out.below HJ.out hrc.out.lt).cell 1
      have k2 := (hrc.out.below HJ.out hrc.out.lt).cell 2
      have k3 := (hrc.out.below HJ.out hrc.out.lt).cell 3
      simp at k0
      simp at k1
      simp at k2
      simp at k3
      refine wpOp_plain rfl rfl ?_
      go_simp
      exact Left.mk0 (.agg #[.string c.chain, .int .i64 c.trust, .bool c.frozen, .slice oa c.known.length ca]) (by first | rfl | simp [updF, *]) HJ.out rfl
    · -- 1: Op.call { value (Operand.func 6), args := #[t47], argTypes :
      intro σ W HJ hdep
      simp [Region.binds] at hdep
      have HJ := hid HJ
      have HC := hid (refClWrongC c (.agg #[.string c.chain, .int .i64 c.trust, .bool c.frozen, .slice oa c.known.length ca]) N W (hcv.out.below (HJ.out.mono hN)) (Nat.le_trans hN HJ.out.size) hcf.out)
      refine wpOp_plain rfl rfl ?_
      go_simp
      refine (HC.out).mono ?_
      rintro e w2 ⟨rfl, hb2⟩
      exact Left.mk (.int .i64 (wrongCl c)) (by first | rfl | simp [updF, *]) hb2 HJ.out rfl
    · -- 2: Op.binOp BinOp.eql 36 t48 (const (0:i64)) 36
      intro σ W HJ hdep
      simp [Region.binds] at hdep
      have HJ := hid HJ
      have eb := hab
      refine wpOp_plain rfl rfl ?_
      go_simp
      exact Left.mk0 (.bool true) (by first | rfl | simp [updF, *]) HJ.out rfl
    · -- 3: Op.move t49
      intro σ W HJ hdep
      simp [Region.binds] at hdep
      have HJ := hid HJ
      refine wpOp_plain rfl rfl ?_
      go_simp
      exact Left.mk0 (.bool true) (by first | rfl | simp [updF, *]) HJ.out rfl
    · -- 4: Op.move t4   [guarded: some (3, true)]
      intro σ W HJ hdep
      simp [Region.binds] at hdep
      have HJ := hid HJ
      refine wpOp_wantsT rfl (by simp [Region.wanted, yielded, *]) ?_
      go_simp
      exact Left.mk0 (.int .i64 now) (by first | rfl | simp [updF, *]) HJ.out rfl
    · -- 5: Op.call { value (Operand.func 10), args := #[t51], argTypes 
      intro σ W HJ hdep
      simp [Region.binds] at hdep
      have HJ := hid HJ
      have HC := hid (refTime_any now W)
      rw [htb.out] at HC
      refine wpOp_wantsT rfl (by simp [Region.wanted, yielded, *]) ?_
      go_simp
      refine (HC.out).mono ?_
      rintro e w2 ⟨rfl, hw2⟩
      obtain rfl := hw2.symm
      exact Left.mk0 (.bool true) (by first | rfl | simp [updF, *]) HJ.out rfl
    · -- 6: Op.pick t50 t52 (const (Value.bool false))
      intro σ W HJ hdep
      simp [Region.binds] at hdep
      have HJ := hid HJ
      refine wpOp_plain rfl rfl ?_
      go_simp
      exact Left.mk0 (.bool true) (by first | rfl | simp [updF, *]) HJ.out rfl
    · -- 7: Op.move t53
      intro σ W HJ hdep
      simp [Region.binds] at hdep
      have HJ := hid HJ
      refine wpOp_plain rfl rfl ?_
      go_simp
      exact Left.mk0 (.bool true) (by first | rfl | simp [updF, *]) HJ.out rfl
    · -- 8: Op.load 24 t5   [guarded: some (7, true)]
      intro σ W HJ hdep
      simp [Region.binds] at hdep
      have HJ := hid HJ
      have k0 := (hrc.out.below HJ.out hrc.out.lt).cell 0
      have k1 := (hrc.out.below HJ.out hrc.out.lt).cell 1
      have k2 := (hrc.out.below HJ.out hrc.out.lt).cell 2
      have k3 := (hrc.out.below HJ.out hrc.out.lt).cell 3
      simp at k0
      simp at k1
      simp at k2
      simp at k3
      refine wpOp_wantsT rfl (by simp [Region.wanted, yielded, *]) ?_
      go_simp
      exact Left.mk0 (.agg #[.string c.chain, .int .i64 c.trust, .bool c.frozen, .slice oa c.known.length ca]) (by first | rfl | simp [updF, *]) HJ.out rfl
    · -- 9: Op.move t4   [guarded: some (7, true)]
      intro σ W HJ hdep
      simp [Region.binds] at hdep
      have HJ := hid HJ
      refine wpOp_wantsT rfl (by simp [Region.wanted, yielded, *]) ?_
      go_simp
      exact Left.mk0 (.int .i64 now) (by first | rfl | simp [updF, *]) HJ.out rfl
    · -- 10: Op.call { value (Operand.func 11), args := #[t55, t56], argT
      intro σ W HJ hdep
      simp [Region.binds] at hdep
      have HJ := hid HJ
      have HC := hid (activeC c now (.agg #[.string c.chain, .int .i64 c.trust, .bool c.frozen, .slice oa c.known.length ca]) N W (hcv.out.below (HJ.out.mono hN)) (Nat.le_trans hN HJ.out.size) hw0.out hnow.out)
      refine wpOp_wantsT rfl (by simp [Region.wanted, yielded, *]) ?_
      go_simp
      refine (HC.out).mono ?_
      rintro e w2 ⟨rfl, hb2⟩
      exact Left.mk (.bool (activeB c now)) (by first | rfl | simp [updF, *]) hb2 HJ.out rfl
    · -- 11: Op.load 24 t5   [guarded: some (7, true)]
      intro σ W HJ hdep
      simp [Region.binds] at hdep
      have HJ := hid HJ
      have k0 := (hrc.out.below HJ.out hrc.out.lt).cell 0
      have k1 := (hrc.out.below HJ.out hrc.out.lt).cell 1
      have k2 := (hrc.out.below HJ.out hrc.out.lt).cell 2
      have k3 := (hrc.out.below HJ.out hrc.out.lt).cell 3
      simp at k0
      simp at k1
      simp at k2
      simp at k3
      refine wpOp_wantsT rfl (by simp [Region.wanted, yielded, *]) ?_
      go_simp
      exact Left.mk0 (.agg #[.string c.chain, .int .i64 c.trust, .bool c.frozen, .slice oa c.known.length ca]) (by first | rfl | simp [updF, *]) HJ.out rfl
    · -- 12: Op.move t4   [guarded: some (7, true)]
      intro σ W HJ hdep
      simp [Region.binds] at hdep
      have HJ := hid HJ
      refine wpOp_wantsT rfl (by simp [Region.wanted, yielded, *]) ?_
      go_simp
      exact Left.mk0 (.int .i64 now) (by first | rfl | simp [updF, *]) HJ.out rfl
    · -- 13: Op.call { value (Operand.func 12), args := #[t58, t59], argT
      intro σ W HJ hdep
      simp [Region.binds] at hdep
      have HJ := hid HJ
      have HC := hid (refActiveC c now (.agg #[.string c.chain, .int .i64 c.trust, .bool c.frozen, .slice oa c.known.length ca]) N W (hcv.out.below (HJ.out.mono hN)) (Nat.le_trans hN HJ.out.size) hw0.out hnow.out)
      refine wpOp_wantsT rfl (by simp [Region.wanted, yielded, *]) ?_
      go_simp
      refine (HC.out).mono ?_
      rintro e w2 ⟨rfl, hb2⟩
      exact Left.mk (.bool (activeB c now)) (by first | rfl | simp [updF, *]) hb2 HJ.out rfl
    · -- 14: Op.binOp BinOp.neq 4 t57 t60 4   [guarded: some (7, true)]
      intro σ W HJ hdep
      simp [Region.binds] at hdep
      have HJ := hid HJ
      have ebb : (activeB c now != activeB c now) = false := by simp
      refine wpOp_wantsT rfl (by simp [Region.wanted, yielded, *]) ?_
      go_simp
      exact Left.mk0 (.bool false) (by first | rfl | simp [updF, *]) HJ.out rfl
    · -- 15: Op.pick t54 t61 (const (Value.bool false))
      intro σ W HJ hdep
      simp [Region.binds] at hdep
      have HJ := hid HJ
      refine wpOp_plain rfl rfl ?_
      go_simp
      exact Left.mk0 (.bool false) (by first | rfl | simp [updF, *]) HJ.out rfl
  · intro σ w' hb hg
    exact hQ.out σ w' hb (by first | exact ⟨hg 15 (by decide)⟩ | exact hg 15 (by decide))
set_option maxRecDepth 100000 in
set_option maxHeartbeats 4000000 in
theorem tellsR7tf {y0 y1 y2 y3 y6 y7 y8 y9 y10 y11 y12 y13 y14 y15 y16 y17 y18 y19 y20 y21 y22 y23 y24 y25 y26 y27 y28 y29 y30 y31 y32 y33 y34 y35 y36 y37 y38 y39 y40 y41 y42 y43 y44 y45 y46 y63 y64 y65 y66 y67 y68 y69 y70 y71 y72 y73 y74 y75 y76 y77 y78 y79 y80 y81 y82 y83 y84 y85 y86 y87 y88 y89 y90 y91 y92 y93 y94 y95 y96 y97 y98 y99 y100 y101 y102 y103 y104 y105 y106 y107 y108 y109 z47 z48 z49 z50 z51 z52 z53 z54 z55 z56 z57 z58 z59 z60 z61 z62 : Value} {gc N : Nat} (c : Cl) (now : Int) (oa : Option Addr) (ca : Nat) {w : World} (hN : N ≤ w.heap.size) (hrc : Hid (Row w gc 24 [.string c.chain, .int .i64 c.trust, .bool c.frozen, .slice oa c.known.length ca])) (hcv : Hid (ClV w N (.agg #[.string c.chain, .int .i64 c.trust, .bool c.frozen, .slice oa c.known.length ca]) c)) (hcf : Hid c.fits) (hab : (wrongCl c == 0) = true) (htb : Hid (timeN now = false)) (Q : Exit → Act → World → Prop)
    (hQ : Hid (∀ (σ : Nat → Value) (w' : World), Below w.heap.size w w' → /-15-/ σ 15 = .bool false → Q .normal ⟨#[y0, y1, y2, y3, .int .i64 now, .pointer (some ⟨gc, 0, none⟩), y6, y7, y8, y9, y10, y11, y12, y13, y14, y15, y16, y17, y18, y19, y20, y21, y22, y23, y24, y25, y26, y27, y28, y29, y30, y31, y32, y33, y34, y35, y36, y37, y38, y39, y40, y41, y42, y43, y44, y45, y46, σ 0, σ 1, σ 2, σ 3, σ 4, σ 5, σ 6, σ 7, σ 8, σ 9, σ 10, σ 11, σ 12, σ 13, σ 14, σ 15, y63, y64, y65, y66, y67, y68, y69, y70, y71, y72, y73, y74, y75, y76, y77, y78, y79, y80, y81, y82, y83, y84, y85, y86, y87, y88, y89, y90, y91, y92, y93, y94, y95, y96, y97, y98, y99, y100, y101, y102, y103, y104, y105, y106, y107, y108, y109], []⟩ w')) :
    Code.wp Tryz.prog (.region 7 ((Tryz.f3.body.bind (regOf 7)).getD #[]) true) Q ⟨#[y0, y1, y2, y3, .int .i64 now, .pointer (some ⟨gc, 0, none⟩), y6, y7, y8, y9, y10, y11, y12, y13, y14, y15, y16, y17, y18, y19, y20, y21, y22, y23, y24, y25, y26, y27, y28, y29, y30, y31, y32, y33, y34, y35, y36, y37, y38, y39, y40, y41, y42, y43, y44, y45, y46, z47, z48, z49, z50, z51, z52, z53, z54, z55, z56, z57, z58, z59, z60, z61, z62, y63, y64, y65, y66, y67, y68, y69, y70, y71, y72, y73, y74, y75, y76, y77, y78, y79, y80, y81, y82, y83, y84, y85, y86, y87, y88, y89, y90, y91, y92, y93, y94, y95, y96, y97, y98, y99, y100, y101, y102, y103, y104, y105, y106, y107, y108, y109], []⟩ w := by
  conv => arg 2; arg 2; whnf
  conv => arg 4; dsimp only
  refine region_grows (by kernel_rfl) (fun σ => #[y0, y1, y2, y3, .int .i64 now, .pointer (some ⟨gc, 0, none⟩), y6, y7, y8, y9, y10, y11, y12, y13, y14, y15, y16, y17, y18, y19, y20, y21, y22, y23, y24, y25, y26, y27, y28, y29, y30, y31, y32, y33, y34, y35, y36, y37, y38, y39, y40, y41, y42, y43, y44, y45, y46, σ 0, σ 1, σ 2, σ 3, σ 4, σ 5, σ 6, σ 7, σ 8, σ 9, σ 10, σ 11, σ 12, σ 13, σ 14, σ 15, y63, y64, y65, y66, y67, y68, y69, y70, y71, y72, y73, y74, y75, y76, y77, y78, y79, y80, y81, y82, y83, y84, y85, y86, y87, y88, y89, y90, y91, y92, y93, y94, y95, y96, y97, y98, y99, y100, y101, y102, y103, y104, y105, y106, y107, y108, y109]) (fun i => ([z47, z48, z49, z50, z51, z52, z53, z54, z55, z56, z57, z58, z59, z60, z61, z62] : List Value).getD i undef) rfl (fun i X W => match i with
    | 0 => X = .agg #[.string c.chain, .int .i64 c.trust, .bool c.frozen, .slice oa c.known.length ca]
    | 1 => X = .int .i64 (wrongCl c)
    | 2 => X = .bool true
    | 3 => X = .bool true
    | 4 => X = .int .i64 now
    | 5 => X = .bool false
    | 6 => X = .bool false
    | 7 => X = .bool false
    | 15 => X = .bool false
    | _ => True) ?_ (by kernel_rfl) ?_ ?_
  · intro i X W W' HB H
    match i, H with
    | 0, H => exact H
    | 1, H => exact H
    | 2, H => exact H
    | 3, H => exact H
    | 4, H => exact H
    | 5, H => exact H
    | 6, H => exact H
    | 7, H => exact H
    | 15, H => exact H
    | 8, _ => exact trivial
    | 9, _ => exact trivial
    | 10, _ => exact trivial
    | 11, _ => exact trivial
    | 12, _ => exact trivial
    | 13, _ => exact trivial
    | 14, _ => exact trivial
    | _ + 16, _ => exact trivial
  · refine ⟨?_, ?_, ?_, ?_, ?_, ?_, ?_, ?_, ?_, ?_, ?_, ?_, ?_, ?_, ?_, ?_, trivial⟩
    · -- 0: Op.load 24 t5
      intro σ W HJ hdep
      simp [Region.binds] at hdep
      have HJ := hid HJ
      have k0 := (hrc.out.below HJ.out hrc.out.lt).cell 0
      have k1 := (hrc.out.below HJ.out hrc.out.lt).cell 1
      have k2 := (hrc.out.below HJ.out hrc.out.lt).cell 2
      have k3 := (hrc.out.below HJ.out hrc.out.lt).cell 3
      simp at k0
      simp at k1
      simp at k2
      simp at k3
      refine wpOp_plain rfl rfl ?_
      go_simp
      exact Left.mk0 (.agg #[.string c.chain, .int .i64 c.trust, .bool c.frozen, .slice oa c.known.length ca]) (by first | rfl | simp [updF, *]) HJ.out rfl
    · -- 1: Op.call { value (Operand.func 6), args := #[t47], argTypes :
      intro σ W HJ hdep
      simp [Region.binds] at hdep
      have HJ := hid HJ
      have HC := hid (refClWrongC c (.agg #[.string c.chain, .int .i64 c.trust, .bool c.frozen, .slice oa c.known.length ca]) N W (hcv.out.below (HJ.out.mono hN)) (Nat.le_trans hN HJ.out.size) hcf.out)
      refine wpOp_plain rfl rfl ?_
      go_simp
      refine (HC.out).mono ?_
      rintro e w2 ⟨rfl, hb2⟩
      exact Left.mk (.int .i64 (wrongCl c)) (by first | rfl | simp [updF, *]) hb2 HJ.out rfl
    · -- 2: Op.binOp BinOp.eql 36 t48 (const (0:i64)) 36
      intro σ W HJ hdep
      simp [Region.binds] at hdep
      have HJ := hid HJ
      have eb := hab
      refine wpOp_plain rfl rfl ?_
      go_simp
      exact Left.mk0 (.bool true) (by first | rfl | simp [updF, *]) HJ.out rfl
    · -- 3: Op.move t49
      intro σ W HJ hdep
      simp [Region.binds] at hdep
      have HJ := hid HJ
      refine wpOp_plain rfl rfl ?_
      go_simp
      exact Left.mk0 (.bool true) (by first | rfl | simp [updF, *]) HJ.out rfl
    · -- 4: Op.move t4   [guarded: some (3, true)]
      intro σ W HJ hdep
      simp [Region.binds] at hdep
      have HJ := hid HJ
      refine wpOp_wantsT rfl (by simp [Region.wanted, yielded, *]) ?_
      go_simp
      exact Left.mk0 (.int .i64 now) (by first | rfl | simp [updF, *]) HJ.out rfl
    · -- 5: Op.call { value (Operand.func 10), args := #[t51], argTypes 
      intro σ W HJ hdep
      simp [Region.binds] at hdep
      have HJ := hid HJ
      have HC := hid (refTime_any now W)
      rw [htb.out] at HC
      refine wpOp_wantsT rfl (by simp [Region.wanted, yielded, *]) ?_
      go_simp
      refine (HC.out).mono ?_
      rintro e w2 ⟨rfl, hw2⟩
      obtain rfl := hw2.symm
      exact Left.mk0 (.bool false) (by first | rfl | simp [updF, *]) HJ.out rfl
    · -- 6: Op.pick t50 t52 (const (Value.bool false))
      intro σ W HJ hdep
      simp [Region.binds] at hdep
      have HJ := hid HJ
      refine wpOp_plain rfl rfl ?_
      go_simp
      exact Left.mk0 (.bool false) (by first | rfl | simp [updF, *]) HJ.out rfl
    · -- 7: Op.move t53
      intro σ W HJ hdep
      simp [Region.binds] at hdep
      have HJ := hid HJ
      refine wpOp_plain rfl rfl ?_
      go_simp
      exact Left.mk0 (.bool false) (by first | rfl | simp [updF, *]) HJ.out rfl
    · -- 8: Op.load 24 t5   [guarded: some (7, true)]
      intro σ W HJ hdep
      simp [Region.binds] at hdep
      have HJ := hid HJ
      have eg : σ 7 = .bool false := by first | exact hdep | exact hdep.1 | exact hdep.2 | exact hdep.2.1 | exact hdep.2.2 | exact hdep.2.2.1 | exact hdep.2.2.2
      clear hdep
      refine wpOp_unwantedT rfl (by simp [Region.wanted, yielded, *]) ?_
      exact Left.mk0 undef (by first | rfl | simp [updF, *]) HJ.out trivial
    · -- 9: Op.move t4   [guarded: some (7, true)]
      intro σ W HJ hdep
      simp [Region.binds] at hdep
      have HJ := hid HJ
      have eg : σ 7 = .bool false := by first | exact hdep | exact hdep.1 | exact hdep.2 | exact hdep.2.1 | exact hdep.2.2 | exact hdep.2.2.1 | exact hdep.2.2.2
      clear hdep
      refine wpOp_unwantedT rfl (by simp [Region.wanted, yielded, *]) ?_
      exact Left.mk0 undef (by first | rfl | simp [updF, *]) HJ.out trivial
    · -- 10: Op.call { value (Operand.func 11), args := #[t55, t56], argT
      intro σ W HJ hdep
      simp [Region.binds] at hdep
      have HJ := hid HJ
      have eg : σ 7 = .bool false := by first | exact hdep | exact hdep.1 | exact hdep.2 | exact hdep.2.1 | exact hdep.2.2 | exact hdep.2.2.1 | exact hdep.2.2.2
      clear hdep
      refine wpOp_unwantedT rfl (by simp [Region.wanted, yielded, *]) ?_
      exact Left.mk0 undef (by first | rfl | simp [updF, *]) HJ.out trivial
    · -- 11: Op.load 24 t5   [guarded: some (7, true)]
      intro σ W HJ hdep
      simp [Region.binds] at hdep
      have HJ := hid HJ
      have eg : σ 7 = .bool false := by first | exact hdep | exact hdep.1 | exact hdep.2 | exact hdep.2.1 | exact hdep.2.2 | exact hdep.2.2.1 | exact hdep.2.2.2
      clear hdep
      refine wpOp_unwantedT rfl (by simp [Region.wanted, yielded, *]) ?_
      exact Left.mk0 undef (by first | rfl | simp [updF, *]) HJ.out trivial
    · -- 12: Op.move t4   [guarded: some (7, true)]
      intro σ W HJ hdep
      simp [Region.binds] at hdep
      have HJ := hid HJ
      have eg : σ 7 = .bool false := by first | exact hdep | exact hdep.1 | exact hdep.2 | exact hdep.2.1 | exact hdep.2.2 | exact hdep.2.2.1 | exact hdep.2.2.2
      clear hdep
      refine wpOp_unwantedT rfl (by simp [Region.wanted, yielded, *]) ?_
      exact Left.mk0 undef (by first | rfl | simp [updF, *]) HJ.out trivial
    · -- 13: Op.call { value (Operand.func 12), args := #[t58, t59], argT
      intro σ W HJ hdep
      simp [Region.binds] at hdep
      have HJ := hid HJ
      have eg : σ 7 = .bool false := by first | exact hdep | exact hdep.1 | exact hdep.2 | exact hdep.2.1 | exact hdep.2.2 | exact hdep.2.2.1 | exact hdep.2.2.2
      clear hdep
      refine wpOp_unwantedT rfl (by simp [Region.wanted, yielded, *]) ?_
      exact Left.mk0 undef (by first | rfl | simp [updF, *]) HJ.out trivial
    · -- 14: Op.binOp BinOp.neq 4 t57 t60 4   [guarded: some (7, true)]
      intro σ W HJ hdep
      simp [Region.binds] at hdep
      have HJ := hid HJ
      have eg : σ 7 = .bool false := by first | exact hdep | exact hdep.1 | exact hdep.2 | exact hdep.2.1 | exact hdep.2.2 | exact hdep.2.2.1 | exact hdep.2.2.2
      clear hdep
      refine wpOp_unwantedT rfl (by simp [Region.wanted, yielded, *]) ?_
      exact Left.mk0 undef (by first | rfl | simp [updF, *]) HJ.out trivial
    · -- 15: Op.pick t54 t61 (const (Value.bool false))
      intro σ W HJ hdep
      simp [Region.binds] at hdep
      have HJ := hid HJ
      refine wpOp_plain rfl rfl ?_
      go_simp
      exact Left.mk0 (.bool false) (by first | rfl | simp [updF, *]) HJ.out rfl
  · intro σ w' hb hg
    exact hQ.out σ w' hb (by first | exact ⟨hg 15 (by decide)⟩ | exact hg 15 (by decide))
set_option maxRecDepth 100000 in
set_option maxHeartbeats 4000000 in
theorem tellsR7ff {y0 y1 y2 y3 y6 y7 y8 y9 y10 y11 y12 y13 y14 y15 y16 y17 y18 y19 y20 y21 y22 y23 y24 y25 y26 y27 y28 y29 y30 y31 y32 y33 y34 y35 y36 y37 y38 y39 y40 y41 y42 y43 y44 y45 y46 y63 y64 y65 y66 y67 y68 y69 y70 y71 y72 y73 y74 y75 y76 y77 y78 y79 y80 y81 y82 y83 y84 y85 y86 y87 y88 y89 y90 y91 y92 y93 y94 y95 y96 y97 y98 y99 y100 y101 y102 y103 y104 y105 y106 y107 y108 y109 z47 z48 z49 z50 z51 z52 z53 z54 z55 z56 z57 z58 z59 z60 z61 z62 : Value} {gc N : Nat} (c : Cl) (now : Int) (oa : Option Addr) (ca : Nat) {w : World} (hN : N ≤ w.heap.size) (hrc : Hid (Row w gc 24 [.string c.chain, .int .i64 c.trust, .bool c.frozen, .slice oa c.known.length ca])) (hcv : Hid (ClV w N (.agg #[.string c.chain, .int .i64 c.trust, .bool c.frozen, .slice oa c.known.length ca]) c)) (hcf : Hid c.fits) (hab : (wrongCl c == 0) = false) (Q : Exit → Act → World → Prop)
    (hQ : Hid (∀ (σ : Nat → Value) (w' : World), Below w.heap.size w w' → /-15-/ σ 15 = .bool false → Q .normal ⟨#[y0, y1, y2, y3, .int .i64 now, .pointer (some ⟨gc, 0, none⟩), y6, y7, y8, y9, y10, y11, y12, y13, y14, y15, y16, y17, y18, y19, y20, y21, y22, y23, y24, y25, y26, y27, y28, y29, y30, y31, y32, y33, y34, y35, y36, y37, y38, y39, y40, y41, y42, y43, y44, y45, y46, σ 0, σ 1, σ 2, σ 3, σ 4, σ 5, σ 6, σ 7, σ 8, σ 9, σ 10, σ 11, σ 12, σ 13, σ 14, σ 15, y63, y64, y65, y66, y67, y68, y69, y70, y71, y72, y73, y74, y75, y76, y77, y78, y79, y80, y81, y82, y83, y84, y85, y86, y87, y88, y89, y90, y91, y92, y93, y94, y95, y96, y97, y98, y99, y100, y101, y102, y103, y104, y105, y106, y107, y108, y109], []⟩ w')) :
    Code.wp Tryz.prog (.region 7 ((Tryz.f3.body.bind (regOf 7)).getD #[]) true) Q ⟨#[y0, y1, y2, y3, .int .i64 now, .pointer (some ⟨gc, 0, none⟩), y6, y7, y8, y9, y10, y11, y12, y13, y14, y15, y16, y17, y18, y19, y20, y21, y22, y23, y24, y25, y26, y27, y28, y29, y30, y31, y32, y33, y34, y35, y36, y37, y38, y39, y40, y41, y42, y43, y44, y45, y46, z47, z48, z49, z50, z51, z52, z53, z54, z55, z56, z57, z58, z59, z60, z61, z62, y63, y64, y65, y66, y67, y68, y69, y70, y71, y72, y73, y74, y75, y76, y77, y78, y79, y80, y81, y82, y83, y84, y85, y86, y87, y88, y89, y90, y91, y92, y93, y94, y95, y96, y97, y98, y99, y100, y101, y102, y103, y104, y105, y106, y107, y108, y109], []⟩ w := by
  conv => arg 2; arg 2; whnf
  conv => arg 4; dsimp only
  refine region_grows (by kernel_rfl) (fun σ => #[y0, y1, y2, y3, .int .i64 now, .pointer (some ⟨gc, 0, none⟩), y6, y7, y8, y9, y10, y11, y12, y13, y14, y15, y16, y17, y18, y19, y20, y21, y22, y23, y24, y25, y26, y27, y28, y29, y30, y31, y32, y33, y34, y35, y36, y37, y38, y39, y40, y41, y42, y43, y44, y45, y46, σ 0, σ 1, σ 2, σ 3, σ 4, σ 5, σ 6, σ 7, σ 8, σ 9, σ 10, σ 11, σ 12, σ 13, σ 14, σ 15, y63, y64, y65, y66, y67, y68, y69, y70, y71, y72, y73, y74, y75, y76, y77, y78, y79, y80, y81, y82, y83, y84, y85, y86, y87, y88, y89, y90, y91, y92, y93, y94, y95, y96, y97, y98, y99, y100, y101, y102, y103, y104, y105, y106, y107, y108, y109]) (fun i => ([z47, z48, z49, z50, z51, z52, z53, z54, z55, z56, z57, z58, z59, z60, z61, z62] : List Value).getD i undef) rfl (fun i X W => match i with
    | 0 => X = .agg #[.string c.chain, .int .i64 c.trust, .bool c.frozen, .slice oa c.known.length ca]
    | 1 => X = .int .i64 (wrongCl c)
    | 2 => X = .bool false
    | 3 => X = .bool false
    | 6 => X = .bool false
    | 7 => X = .bool false
    | 15 => X = .bool false
    | _ => True) ?_ (by kernel_rfl) ?_ ?_
  · intro i X W W' HB H
    match i, H with
    | 0, H => exact H
    | 1, H => exact H
    | 2, H => exact H
    | 3, H => exact H
    | 6, H => exact H
    | 7, H => exact H
    | 15, H => exact H
    | 4, _ => exact trivial
    | 5, _ => exact trivial
    | 8, _ => exact trivial
    | 9, _ => exact trivial
    | 10, _ => exact trivial
    | 11, _ => exact trivial
    | 12, _ => exact trivial
    | 13, _ => exact trivial
    | 14, _ => exact trivial
    | _ + 16, _ => exact trivial
  · refine ⟨?_, ?_, ?_, ?_, ?_, ?_, ?_, ?_, ?_, ?_, ?_, ?_, ?_, ?_, ?_, ?_, trivial⟩
    · -- 0: Op.load 24 t5
      intro σ W HJ hdep
      simp [Region.binds] at hdep
      have HJ := hid HJ
      have k0 := (hrc.out.below HJ.out hrc.out.lt).cell 0
      have k1 := (hrc.out.below HJ.out hrc.out.lt).cell 1
      have k2 := (hrc.out.below HJ.out hrc.out.lt).cell 2
      have k3 := (hrc.out.below HJ.out hrc.out.lt).cell 3
      simp at k0
      simp at k1
      simp at k2
      simp at k3
      refine wpOp_plain rfl rfl ?_
      go_simp
      exact Left.mk0 (.agg #[.string c.chain, .int .i64 c.trust, .bool c.frozen, .slice oa c.known.length ca]) (by first | rfl | simp [updF, *]) HJ.out rfl
    · -- 1: Op.call { value (Operand.func 6), args := #[t47], argTypes :
      intro σ W HJ hdep
      simp [Region.binds] at hdep
      have HJ := hid HJ
      have HC := hid (refClWrongC c (.agg #[.string c.chain, .int .i64 c.trust, .bool c.frozen, .slice oa c.known.length ca]) N W (hcv.out.below (HJ.out.mono hN)) (Nat.le_trans hN HJ.out.size) hcf.out)
      refine wpOp_plain rfl rfl ?_
      go_simp
      refine (HC.out).mono ?_
      rintro e w2 ⟨rfl, hb2⟩
      exact Left.mk (.int .i64 (wrongCl c)) (by first | rfl | simp [updF, *]) hb2 HJ.out rfl
    · -- 2: Op.binOp BinOp.eql 36 t48 (const (0:i64)) 36
      intro σ W HJ hdep
      simp [Region.binds] at hdep
      have HJ := hid HJ
      have eb := hab
      refine wpOp_plain rfl rfl ?_
      go_simp
      exact Left.mk0 (.bool false) (by first | rfl | simp [updF, *]) HJ.out rfl
    · -- 3: Op.move t49
      intro σ W HJ hdep
      simp [Region.binds] at hdep
      have HJ := hid HJ
      refine wpOp_plain rfl rfl ?_
      go_simp
      exact Left.mk0 (.bool false) (by first | rfl | simp [updF, *]) HJ.out rfl
    · -- 4: Op.move t4   [guarded: some (3, true)]
      intro σ W HJ hdep
      simp [Region.binds] at hdep
      have HJ := hid HJ
      have eg : σ 3 = .bool false := by first | exact hdep | exact hdep.1 | exact hdep.2 | exact hdep.2.1 | exact hdep.2.2 | exact hdep.2.2.1 | exact hdep.2.2.2
      clear hdep
      refine wpOp_unwantedT rfl (by simp [Region.wanted, yielded, *]) ?_
      exact Left.mk0 undef (by first | rfl | simp [updF, *]) HJ.out trivial
    · -- 5: Op.call { value (Operand.func 10), args := #[t51], argTypes 
      intro σ W HJ hdep
      simp [Region.binds] at hdep
      have HJ := hid HJ
      have eg : σ 3 = .bool false := by first | exact hdep | exact hdep.1 | exact hdep.2 | exact hdep.2.1 | exact hdep.2.2 | exact hdep.2.2.1 | exact hdep.2.2.2
      clear hdep
      refine wpOp_unwantedT rfl (by simp [Region.wanted, yielded, *]) ?_
      exact Left.mk0 undef (by first | rfl | simp [updF, *]) HJ.out trivial
    · -- 6: Op.pick t50 t52 (const (Value.bool false))
      intro σ W HJ hdep
      simp [Region.binds] at hdep
      have HJ := hid HJ
      refine wpOp_plain rfl rfl ?_
      go_simp
      exact Left.mk0 (.bool false) (by first | rfl | simp [updF, *]) HJ.out rfl
    · -- 7: Op.move t53
      intro σ W HJ hdep
      simp [Region.binds] at hdep
      have HJ := hid HJ
      refine wpOp_plain rfl rfl ?_
      go_simp
      exact Left.mk0 (.bool false) (by first | rfl | simp [updF, *]) HJ.out rfl
    · -- 8: Op.load 24 t5   [guarded: some (7, true)]
      intro σ W HJ hdep
      simp [Region.binds] at hdep
      have HJ := hid HJ
      have eg : σ 7 = .bool false := by first | exact hdep | exact hdep.1 | exact hdep.2 | exact hdep.2.1 | exact hdep.2.2 | exact hdep.2.2.1 | exact hdep.2.2.2
      clear hdep
      refine wpOp_unwantedT rfl (by simp [Region.wanted, yielded, *]) ?_
      exact Left.mk0 undef (by first | rfl | simp [updF, *]) HJ.out trivial
    · -- 9: Op.move t4   [guarded: some (7, true)]
      intro σ W HJ hdep
      simp [Region.binds] at hdep
      have HJ := hid HJ
      have eg : σ 7 = .bool false := by first | exact hdep | exact hdep.1 | exact hdep.2 | exact hdep.2.1 | exact hdep.2.2 | exact hdep.2.2.1 | exact hdep.2.2.2
      clear hdep
      refine wpOp_unwantedT rfl (by simp [Region.wanted, yielded, *]) ?_
      exact Left.mk0 undef (by first | rfl | simp [updF, *]) HJ.out trivial
    · -- 10: Op.call { value (Operand.func 11), args := #[t55, t56], argT
      intro σ W HJ hdep
      simp [Region.binds] at hdep
      have HJ := hid HJ
      have eg : σ 7 = .bool false := by first | exact hdep | exact hdep.1 | exact hdep.2 | exact hdep.2.1 | exact hdep.2.2 | exact hdep.2.2.1 | exact hdep.2.2.2
      clear hdep
      refine wpOp_unwantedT rfl (by simp [Region.wanted, yielded, *]) ?_
      exact Left.mk0 undef (by first | rfl | simp [updF, *]) HJ.out trivial
    · -- 11: Op.load 24 t5   [guarded: some (7, true)]
      intro σ W HJ hdep
      simp [Region.binds] at hdep
      have HJ := hid HJ
      have eg : σ 7 = .bool false := by first | exact hdep | exact hdep.1 | exact hdep.2 | exact hdep.2.1 | exact hdep.2.2 | exact hdep.2.2.1 | exact hdep.2.2.2
      clear hdep
      refine wpOp_unwantedT rfl (by simp [Region.wanted, yielded, *]) ?_
      exact Left.mk0 undef (by first | rfl | simp [updF, *]) HJ.out trivial
    · -- 12: Op.move t4   [guarded: some (7, true)]
      intro σ W HJ hdep
      simp [Region.binds] at hdep
      have HJ := hid HJ
      have eg : σ 7 = .bool false := by first | exact hdep | exact hdep.1 | exact hdep.2 | exact hdep.2.1 | exact hdep.2.2 | exact hdep.2.2.1 | exact hdep.2.2.2
      clear hdep
      refine wpOp_unwantedT rfl (by simp [Region.wanted, yielded, *]) ?_
      exact Left.mk0 undef (by first | rfl | simp [updF, *]) HJ.out trivial
    · -- 13: Op.call { value (Operand.func 12), args := #[t58, t59], argT
      intro σ W HJ hdep
      simp [Region.binds] at hdep
      have HJ := hid HJ
      have eg : σ 7 = .bool false := by first | exact hdep | exact hdep.1 | exact hdep.2 | exact hdep.2.1 | exact hdep.2.2 | exact hdep.2.2.1 | exact hdep.2.2.2
      clear hdep
      refine wpOp_unwantedT rfl (by simp [Region.wanted, yielded, *]) ?_
      exact Left.mk0 undef (by first | rfl | simp [updF, *]) HJ.out trivial
    · -- 14: Op.binOp BinOp.neq 4 t57 t60 4   [guarded: some (7, true)]
      intro σ W HJ hdep
      simp [Region.binds] at hdep
      have HJ := hid HJ
      have eg : σ 7 = .bool false := by first | exact hdep | exact hdep.1 | exact hdep.2 | exact hdep.2.1 | exact hdep.2.2 | exact hdep.2.2.1 | exact hdep.2.2.2
      clear hdep
      refine wpOp_unwantedT rfl (by simp [Region.wanted, yielded, *]) ?_
      exact Left.mk0 undef (by first | rfl | simp [updF, *]) HJ.out trivial
    · -- 15: Op.pick t54 t61 (const (Value.bool false))
      intro σ W HJ hdep
      simp [Region.binds] at hdep
      have HJ := hid HJ
      refine wpOp_plain rfl rfl ?_
      go_simp
      exact Left.mk0 (.bool false) (by first | rfl | simp [updF, *]) HJ.out rfl
  · intro σ w' hb hg
    exact hQ.out σ w' hb (by first | exact ⟨hg 15 (by decide)⟩ | exact hg 15 (by decide))
set_option maxRecDepth 100000 in
set_option maxHeartbeats 4000000 in
theorem tellsR7 {y0 y1 y2 y3 y6 y7 y8 y9 y10 y11 y12 y13 y14 y15 y16 y17 y18 y19 y20 y21 y22 y23 y24 y25 y26 y27 y28 y29 y30 y31 y32 y33 y34 y35 y36 y37 y38 y39 y40 y41 y42 y43 y44 y45 y46 y63 y64 y65 y66 y67 y68 y69 y70 y71 y72 y73 y74 y75 y76 y77 y78 y79 y80 y81 y82 y83 y84 y85 y86 y87 y88 y89 y90 y91 y92 y93 y94 y95 y96 y97 y98 y99 y100 y101 y102 y103 y104 y105 y106 y107 y108 y109 z47 z48 z49 z50 z51 z52 z53 z54 z55 z56 z57 z58 z59 z60 z61 z62 : Value} {gc N : Nat} (c : Cl) (now : Int) (oa : Option Addr) (ca : Nat) {w : World} (hN : N ≤ w.heap.size) (hrc : Hid (Row w gc 24 [.string c.chain, .int .i64 c.trust, .bool c.frozen, .slice oa c.known.length ca])) (hcv : Hid (ClV w N (.agg #[.string c.chain, .int .i64 c.trust, .bool c.frozen, .slice oa c.known.length ca]) c)) (hcf : Hid c.fits) (Q : Exit → Act → World → Prop)
    (hQ : Hid (∀ (σ : Nat → Value) (w' : World), Below w.heap.size w w' → /-15-/ σ 15 = .bool false → Q .normal ⟨#[y0, y1, y2, y3, .int .i64 now, .pointer (some ⟨gc, 0, none⟩), y6, y7, y8, y9, y10, y11, y12, y13, y14, y15, y16, y17, y18, y19, y20, y21, y22, y23, y24, y25, y26, y27, y28, y29, y30, y31, y32, y33, y34, y35, y36, y37, y38, y39, y40, y41, y42, y43, y44, y45, y46, σ 0, σ 1, σ 2, σ 3, σ 4, σ 5, σ 6, σ 7, σ 8, σ 9, σ 10, σ 11, σ 12, σ 13, σ 14, σ 15, y63, y64, y65, y66, y67, y68, y69, y70, y71, y72, y73, y74, y75, y76, y77, y78, y79, y80, y81, y82, y83, y84, y85, y86, y87, y88, y89, y90, y91, y92, y93, y94, y95, y96, y97, y98, y99, y100, y101, y102, y103, y104, y105, y106, y107, y108, y109], []⟩ w')) :
    Code.wp Tryz.prog (.region 7 ((Tryz.f3.body.bind (regOf 7)).getD #[]) true) Q ⟨#[y0, y1, y2, y3, .int .i64 now, .pointer (some ⟨gc, 0, none⟩), y6, y7, y8, y9, y10, y11, y12, y13, y14, y15, y16, y17, y18, y19, y20, y21, y22, y23, y24, y25, y26, y27, y28, y29, y30, y31, y32, y33, y34, y35, y36, y37, y38, y39, y40, y41, y42, y43, y44, y45, y46, z47, z48, z49, z50, z51, z52, z53, z54, z55, z56, z57, z58, z59, z60, z61, z62, y63, y64, y65, y66, y67, y68, y69, y70, y71, y72, y73, y74, y75, y76, y77, y78, y79, y80, y81, y82, y83, y84, y85, y86, y87, y88, y89, y90, y91, y92, y93, y94, y95, y96, y97, y98, y99, y100, y101, y102, y103, y104, y105, y106, y107, y108, y109], []⟩ w := by
  by_cases h0 : wrongCl c = 0
  · have hab : (wrongCl c == 0) = true := by simp [h0]
    cases ht : timeN now with
    | true => exact tellsR7tt c now oa ca hN hrc hcv hcf hab (hid ht) (hid h0) (hid (by simpa [timeN] using ht)) Q hQ
    | false => exact tellsR7tf c now oa ca hN hrc hcv hcf hab (hid ht) Q hQ
  · exact tellsR7ff c now oa ca hN hrc hcv hcf (by simp [h0]) Q hQ
set_option maxRecDepth 100000 in
set_option maxHeartbeats 16000000 in
theorem clientTells_any (c : Cl) (k : Kn) (a b : Up) (now : Int) (cv kv av bv : Value) (N : Nat) (w : World) (htab : tableAt w) (hN : N ≤ w.heap.size) (hcv : ClV w N cv c) (hkv : KnV w N kv k) (hav : UpV w N av a) (hbv : UpV w N bv b) (hcf : c.fits) (hkf : k.fits) (haf : a.fits) (hbf : b.fits) :
    Calls Tryz.prog 3 #[cv, kv, av, bv, .int .i64 now] w fun e w' => e = .returned (.bool true) ∧ Below w.heap.size w w' := by
  have HN1 := hid (show ∀ wx, Below w.heap.size w wx → _ from fun wx hx => clNewC c.chain c.trust k kv N wx (hkv.below (hx.mono hN)) (Nat.le_trans hN hx.size) hcf.1 hkf)
  have HN2 := hid (show ∀ wx, Below w.heap.size w wx → _ from fun wx hx => refNewC c.chain c.trust k kv N wx (hkv.below (hx.mono hN)) (Nat.le_trans hN hx.size) hcf.1 hkf)
  have HF1 := hid (show ∀ wx, Below w.heap.size w wx → _ from fun wx hx => clFollowC c a now cv av N wx (htab.below hx htab.lt) (Nat.le_trans hN hx.size) (hcv.below (hx.mono hN)) (hav.below (hx.mono hN)) hcf haf)
  have HF2 := hid (show ∀ wx, Below w.heap.size w wx → _ from fun wx hx => refFollowC c a now cv av N wx (htab.below hx htab.lt) (Nat.le_trans hN hx.size) (hcv.below (hx.mono hN)) (hav.below (hx.mono hN)) hcf haf)
  have HC1 := hid (show ∀ wx, Below w.heap.size w wx → _ from fun wx hx => clCatchC c a b now cv av bv N wx (htab.below hx htab.lt) (Nat.le_trans hN hx.size) (hcv.below (hx.mono hN)) (hav.below (hx.mono hN)) (hbv.below (hx.mono hN)) hcf haf hbf)
  have HC2 := hid (show ∀ wx, Below w.heap.size w wx → _ from fun wx hx => refCatchC c a b now cv av bv N wx (htab.below hx htab.lt) (Nat.le_trans hN hx.size) (hcv.below (hx.mono hN)) (hav.below (hx.mono hN)) (hbv.below (hx.mono hN)) hcf haf hbf)
  have HNF := hid (newR_fits (tr := c.trust) hcf.1 hkf)
  have HFF := hid (follow_fits (now := now) hcf haf)
  have HCFT := hid (catchC_fits (a := a) (b := b) (now := now) hcf)
  have HCV := hid hcv
  have HCF := hid hcf
  obtain ⟨xv, rfl, hkn⟩ := hcv
  obtain ⟨oa, ca, rfl, -⟩ := hkn.shape
  obtain ⟨rv, nv, rfl, g1, g2⟩ := hkv
  obtain ⟨p1, d1, rfl, -⟩ := g1.shape
  obtain ⟨p2, d2, rfl, -⟩ := g2.shape
  obtain ⟨o1, c1, o2, c2, o3, c3, o4, c4, o5, c5, o6, c6, rfl, -, -, -, -, -, -⟩ := hav.open
  obtain ⟨q1, y1, q2, y2, q3, y3, q4, y4, q5, y5, q6, y6, rfl, -, -, -, -, -, -⟩ := hbv.open
  obtain ⟨w0, hw0⟩ : ∃ w0, (((w.alloc (.cells #[.string c.chain, .int .i64 c.trust, .bool c.frozen, .slice oa c.known.length ca] 24)).alloc (.cells #[.int .i64 k.height, .int .i64 k.time, .slice p1 k.root.length d1, .slice p2 k.next.length d2] 27)).alloc (.cells #[.int .i64 a.frm, .string a.sg.hd.chain, .int .i64 a.sg.hd.height, .int .i64 a.sg.hd.time, .slice o1 a.sg.hd.root.length c1, .slice o2 a.sg.hd.vals.length c2, .slice o3 a.sg.hd.next.length c3, .slice o4 a.sg.vals.length c4, .slice o5 a.sg.votes.length c5, .slice o6 a.trusted.length c6] 35)).alloc (.cells #[.int .i64 b.frm, .string b.sg.hd.chain, .int .i64 b.sg.hd.height, .int .i64 b.sg.hd.time, .slice q1 b.sg.hd.root.length y1, .slice q2 b.sg.hd.vals.length y2, .slice q3 b.sg.hd.next.length y3, .slice q4 b.sg.vals.length y4, .slice q5 b.sg.votes.length y5, .slice q6 b.trusted.length y6] 35) = w0 := ⟨_, rfl⟩
  have HB0 := hid (show Below w.heap.size w w0 by rw [← hw0]; exact ((((Below.refl _ _).alloc (Nat.le_refl _) _).alloc (by simp) _).alloc (by simp; omega) _).alloc (by simp; omega) _)
  have HRC0 := hid (show Row w0 w.heap.size 24 [.string c.chain, .int .i64 c.trust, .bool c.frozen, .slice oa c.known.length ca] by rw [← hw0]; exact (((Row.new _ _ _).alloc _).alloc _).alloc _)
  have HRK0 := hid (show Row w0 (w.heap.size + 1) 27 [.int .i64 k.height, .int .i64 k.time, .slice p1 k.root.length d1, .slice p2 k.next.length d2] by rw [← hw0]; exact ((Row.newAt _ _ _ _ (by simp)).alloc _).alloc _)
  have HRA0 := hid (show Row w0 (w.heap.size + 1 + 1) 35 [.int .i64 a.frm, .string a.sg.hd.chain, .int .i64 a.sg.hd.height, .int .i64 a.sg.hd.time, .slice o1 a.sg.hd.root.length c1, .slice o2 a.sg.hd.vals.length c2, .slice o3 a.sg.hd.next.length c3, .slice o4 a.sg.vals.length c4, .slice o5 a.sg.votes.length c5, .slice o6 a.trusted.length c6] by rw [← hw0]; exact (Row.newAt _ _ _ _ (by simp)).alloc _)
  have HRB0 := hid (show Row w0 (w.heap.size + 1 + 1 + 1) 35 [.int .i64 b.frm, .string b.sg.hd.chain, .int .i64 b.sg.hd.height, .int .i64 b.sg.hd.time, .slice q1 b.sg.hd.root.length y1, .slice q2 b.sg.hd.vals.length y2, .slice q3 b.sg.hd.next.length y3, .slice q4 b.sg.vals.length y4, .slice q5 b.sg.votes.length y5, .slice q6 b.trusted.length y6] by rw [← hw0]; exact Row.newAt _ _ _ _ (by simp))
  have HW0 := hid hw0
  clear hkn g1 g2 hav hbv htab hcf hkf haf hbf hw0
  go_enter Tryz.func3, Tryz.ntmps3
  go_wp2_with fail
  rw [HW0.out]
  refine tellsR1 c now oa ca (Nat.le_trans hN HB0.out.size) HRC0 (hid (HCV.out.below (HB0.out.mono hN))) HCF _ (hid ?_)
  intro σ1 w1 hb1 h4
  have HRC1 := hid (HRC0.out.below hb1 HRC0.out.lt)
  have HRK1 := hid (HRK0.out.below hb1 HRK0.out.lt)
  have HRA1 := hid (HRA0.out.below hb1 HRA0.out.lt)
  have HRB1 := hid (HRB0.out.below hb1 HRB0.out.lt)
  have HB1 := hid (HB0.out.trans (hb1.mono HB0.out.size))
  rw [h4]
  clear hb1 h4
  obtain ⟨⟨a0, a1, a2, a3⟩, -⟩ := HRC1.out.four
  obtain ⟨⟨k0, k1, k2, k3⟩, -⟩ := HRK1.out.four
  go_wp2_with fail
  refine (HN1.out _ HB1.out).mono ?_
  rintro e w2 ⟨hb2, ox, nx, mx, rfl, hkx⟩
  have HRC2 := hid (HRC1.out.below hb2 HRC1.out.lt)
  have HRK2 := hid (HRK1.out.below hb2 HRK1.out.lt)
  have HRA2 := hid (HRA1.out.below hb2 HRA1.out.lt)
  have HRB2 := hid (HRB1.out.below hb2 HRB1.out.lt)
  have HB2 := hid (HB1.out.trans (hb2.mono HB1.out.size))
  have HKX := hid hkx
  clear hb2 hkx a0 a1 a2 a3 k0 k1 k2 k3
  obtain ⟨dn, hdn⟩ : ∃ dn, newR c.chain c.trust k = dn := ⟨_, rfl⟩
  obtain ⟨en, hen⟩ : ∃ en, wrongCl (newC c.chain c.trust k) = en := ⟨_, rfl⟩
  rw [hdn] at HKX HN2 HNF
  rw [hen] at HN2
  rw [hdn, hen]
  clear hdn hen
  obtain ⟨w3, hw3⟩ : ∃ w3, w2.alloc (.cells #[.string dn.chain, .int .i64 dn.trust, .bool dn.frozen, .slice ox nx mx] 24) = w3 := ⟨_, rfl⟩
  have hb3 : Below w2.heap.size w2 w3 := by rw [← hw3]; exact (Below.refl _ _).alloc (Nat.le_refl _) _
  have HRX3 := hid (show Row w3 w2.heap.size 24 [.string dn.chain, .int .i64 dn.trust, .bool dn.frozen, .slice ox nx mx] by rw [← hw3]; exact Row.new _ _ _)
  have HRC3 := hid (HRC2.out.below hb3 HRC2.out.lt)
  have HRK3 := hid (HRK2.out.below hb3 HRK2.out.lt)
  have HRA3 := hid (HRA2.out.below hb3 HRA2.out.lt)
  have HRB3 := hid (HRB2.out.below hb3 HRB2.out.lt)
  have HB3 := hid (HB2.out.trans (hb3.mono HB2.out.size))
  have HKX3 := hid ((HKX.out.below hb3).mono hb3.size)
  have HW3 := hid hw3
  have HSX := hid HB2.out.size
  clear hb3 hw3
  go_upto_region 4 with fail
  rw [HW3.out]
  obtain ⟨⟨a0, a1, a2, a3⟩, -⟩ := HRC3.out.four
  obtain ⟨⟨k0, k1, k2, k3⟩, -⟩ := HRK3.out.four
  go_wp2_with fail
  refine (HN2.out _ HB3.out).mono ?_
  rintro e w4 ⟨hb4, oy, ny, my, rfl, hky⟩
  have HRC4 := hid (HRC3.out.below hb4 HRC3.out.lt)
  have HRK4 := hid (HRK3.out.below hb4 HRK3.out.lt)
  have HRA4 := hid (HRA3.out.below hb4 HRA3.out.lt)
  have HRB4 := hid (HRB3.out.below hb4 HRB3.out.lt)
  have HRX4 := hid (HRX3.out.below hb4 HRX3.out.lt)
  have HB4 := hid (HB3.out.trans (hb4.mono HB3.out.size))
  have HKX4 := hid ((HKX3.out.below hb4).mono hb4.size)
  have HKY := hid hky
  clear hb4 hky a0 a1 a2 a3 k0 k1 k2 k3
  obtain ⟨w5, hw5⟩ : ∃ w5, w4.alloc (.cells #[.string dn.chain, .int .i64 dn.trust, .bool dn.frozen, .slice oy ny my] 24) = w5 := ⟨_, rfl⟩
  have hb5 : Below w4.heap.size w4 w5 := by rw [← hw5]; exact (Below.refl _ _).alloc (Nat.le_refl _) _
  have HRY5 := hid (show Row w5 w4.heap.size 24 [.string dn.chain, .int .i64 dn.trust, .bool dn.frozen, .slice oy ny my] by rw [← hw5]; exact Row.new _ _ _)
  have HRC5 := hid (HRC4.out.below hb5 HRC4.out.lt)
  have HRK5 := hid (HRK4.out.below hb5 HRK4.out.lt)
  have HRA5 := hid (HRA4.out.below hb5 HRA4.out.lt)
  have HRB5 := hid (HRB4.out.below hb5 HRB4.out.lt)
  have HRX5 := hid (HRX4.out.below hb5 HRX4.out.lt)
  have HB5 := hid (HB4.out.trans (hb5.mono HB4.out.size))
  have HCX := hid (show ClV w5 w5.heap.size (.agg #[.string dn.chain, .int .i64 dn.trust, .bool dn.frozen, .slice ox nx mx]) dn from ⟨_, rfl, (HKX4.out.below hb5).mono hb5.size⟩)
  have HCY := hid (show ClV w5 w5.heap.size (.agg #[.string dn.chain, .int .i64 dn.trust, .bool dn.frozen, .slice oy ny my]) dn from ⟨_, rfl, (HKY.out.below hb5).mono hb5.size⟩)
  have HSM := hid (sameCl_any dn _ _ w5.heap.size w5 (Nat.le_refl _) HCX.out HCY.out HNF.out)
  have HLX := hid HRX4.out.lt
  have HSY := hid HB4.out.size
  have HW5 := hid hw5
  clear hb5 hw5
  go_upto_region 5 with fail
  rw [HW5.out]
  have eb : (en != en) = false := by simp
  obtain ⟨⟨x0, x1, x2, x3⟩, -⟩ := HRX5.out.four
  obtain ⟨⟨y0, y1, y2, y3⟩, -⟩ := HRY5.out.four
  go_wp2_with fail
  refine HSM.out.mono ?_
  rintro e w6 ⟨rfl, hb6⟩
  have HRC6 := hid (HRC5.out.below hb6 HRC5.out.lt)
  have HRK6 := hid (HRK5.out.below hb6 HRK5.out.lt)
  have HRA6 := hid (HRA5.out.below hb6 HRA5.out.lt)
  have HRB6 := hid (HRB5.out.below hb6 HRB5.out.lt)
  have HRX6 := hid (HRX5.out.below hb6 HRX5.out.lt)
  have HRY6 := hid (HRY5.out.below hb6 HRY5.out.lt)
  have HB6 := hid (HB5.out.trans (hb6.mono HB5.out.size))
  clear hb6 x0 x1 x2 x3 y0 y1 y2 y3 eb HSM HCX HCY
  go_wp2_with fail
  have HNE := hid (show w.heap.size + 1 + 1 + 1 < w2.heap.size ∧ w2.heap.size < w4.heap.size from ⟨HRB2.out.lt, HLX.out⟩)
  refine tellsR7 c now oa ca (Nat.le_trans hN HB6.out.size) HRC6 (hid (HCV.out.below (HB6.out.mono hN))) HCF _ (hid ?_)
  intro σ7 w7 hb7 h15
  have HRC7 := hid (HRC6.out.below hb7 HRC6.out.lt)
  have HRK7 := hid (HRK6.out.below hb7 HRK6.out.lt)
  have HRA7 := hid (HRA6.out.below hb7 HRA6.out.lt)
  have HRB7 := hid (HRB6.out.below hb7 HRB6.out.lt)
  have HRX7 := hid (HRX6.out.below hb7 HRX6.out.lt)
  have HRY7 := hid (HRY6.out.below hb7 HRY6.out.lt)
  have HB7 := hid (HB6.out.trans (hb7.mono HB6.out.size))
  rw [h15]
  clear hb7 h15
  obtain ⟨⟨a0, a1, a2, a3⟩, -⟩ := HRC7.out.four
  obtain ⟨⟨i0, i1, i2, i3, i4⟩, i5, i6, i7, i8, i9⟩ := HRA7.out.ten
  go_wp2_with fail
  refine (HF1.out _ HB7.out).mono ?_
  rintro e w8 ⟨hb, o0x, n0x, m0x, rfl, hkx⟩
  have HRC8 := hid (HRC7.out.below hb HRC7.out.lt)
  have HRK8 := hid (HRK7.out.below hb HRK7.out.lt)
  have HRA8 := hid (HRA7.out.below hb HRA7.out.lt)
  have HRB8 := hid (HRB7.out.below hb HRB7.out.lt)
  have HRX8 := hid (HRX7.out.below hb HRX7.out.lt)
  have HRY8 := hid (HRY7.out.below hb HRY7.out.lt)
  have HB8 := hid (HB7.out.trans (hb.mono HB7.out.size))
  have HKX8 := hid hkx
  clear hb hkx a0 a1 a2 a3 i0 i1 i2 i3 i4 i5 i6 i7 i8 i9
  obtain ⟨df, hdf⟩ : ∃ d, followC c a now = d := ⟨_, rfl⟩
  obtain ⟨ef, hef⟩ : ∃ d, followE c a now = d := ⟨_, rfl⟩
  rw [hdf] at HKX8 HF2 HFF
  rw [hef] at HF2
  rw [hdf, hef]
  clear hdf hef
  obtain ⟨w9, hw9⟩ : ∃ wn, (((w8.setCell ⟨w2.heap.size, 0, none⟩ (.string df.chain)).setCell ⟨w2.heap.size, 1, none⟩ (.int .i64 df.trust)).setCell ⟨w2.heap.size, 2, none⟩ (.bool df.frozen)).setCell ⟨w2.heap.size, 3, none⟩ (.slice o0x n0x m0x) = wn := ⟨_, rfl⟩
  have hs4 : set4 w8 w2.heap.size (.string df.chain) (.int .i64 df.trust) (.bool df.frozen) (.slice o0x n0x m0x) = w9 := hw9
  have HO9 := hid (show ∀ g, g ≠ w2.heap.size → w9.heap[g]? = w8.heap[g]? by rw [← hs4]; exact set4_other w8 _ _ _ _ _)
  have HZ9 := hid (show w9.heap.size = w8.heap.size by rw [← hs4]; exact set4_size _ _ _ _ _ _)
  have HB9 := hid (show Below w.heap.size w w9 by rw [← hs4]; exact set4_below HB8.out HSX.out _ _ _ _)
  have HRX9 := hid (show Row w9 w2.heap.size 24 [.string df.chain, .int .i64 df.trust, .bool df.frozen, .slice o0x n0x m0x] by rw [← hs4]; exact set4_row HRX8.out _ _ _ _)
  have HRC9 := hid (row_kept HRC8.out (HO9.out _ (by have := HNE.out; omega)))
  have HRK9 := hid (row_kept HRK8.out (HO9.out _ (by have := HNE.out; omega)))
  have HRA9 := hid (row_kept HRA8.out (HO9.out _ (by have := HNE.out; omega)))
  have HRB9 := hid (row_kept HRB8.out (HO9.out _ (by have := HNE.out; omega)))
  have HRY9 := hid (row_kept HRY8.out (HO9.out _ (by have := HNE.out; omega)))
  have HKX9 := hid (((HKX8.out).onlyCl HRX8.out HO9.out).mono (Nat.le_of_eq HZ9.out.symm))
  have HW9 := hid hw9
  obtain ⟨⟨z0, z1, z2, z3⟩, f0, f1, f2, f3⟩ := HRX8.out.four
  clear hs4 hw9
  go_upto_region 10 with fail
  rw [HW9.out]
  clear z0 z1 z2 z3 f0 f1 f2 f3
  obtain ⟨⟨a0, a1, a2, a3⟩, -⟩ := HRC9.out.four
  obtain ⟨⟨i0, i1, i2, i3, i4⟩, i5, i6, i7, i8, i9⟩ := HRA9.out.ten
  go_wp2_with fail
  refine (HF2.out _ HB9.out).mono ?_
  rintro e w10 ⟨hb, o0y, n0y, m0y, rfl, hky⟩
  have HRC10 := hid (HRC9.out.below hb HRC9.out.lt)
  have HRK10 := hid (HRK9.out.below hb HRK9.out.lt)
  have HRA10 := hid (HRA9.out.below hb HRA9.out.lt)
  have HRB10 := hid (HRB9.out.below hb HRB9.out.lt)
  have HRX10 := hid (HRX9.out.below hb HRX9.out.lt)
  have HRY10 := hid (HRY9.out.below hb HRY9.out.lt)
  have HB10 := hid (HB9.out.trans (hb.mono HB9.out.size))
  have HKX10 := hid ((HKX9.out.below hb).mono hb.size)
  have HKY10 := hid hky
  clear hb hky a0 a1 a2 a3 i0 i1 i2 i3 i4 i5 i6 i7 i8 i9
  obtain ⟨w11, hw11⟩ : ∃ wn, (((w10.setCell ⟨w4.heap.size, 0, none⟩ (.string df.chain)).setCell ⟨w4.heap.size, 1, none⟩ (.int .i64 df.trust)).setCell ⟨w4.heap.size, 2, none⟩ (.bool df.frozen)).setCell ⟨w4.heap.size, 3, none⟩ (.slice o0y n0y m0y) = wn := ⟨_, rfl⟩
  have hs4 : set4 w10 w4.heap.size (.string df.chain) (.int .i64 df.trust) (.bool df.frozen) (.slice o0y n0y m0y) = w11 := hw11
  have HO11 := hid (show ∀ g, g ≠ w4.heap.size → w11.heap[g]? = w10.heap[g]? by rw [← hs4]; exact set4_other w10 _ _ _ _ _)
  have HZ11 := hid (show w11.heap.size = w10.heap.size by rw [← hs4]; exact set4_size _ _ _ _ _ _)
  have HB11 := hid (show Below w.heap.size w w11 by rw [← hs4]; exact set4_below HB10.out HSY.out _ _ _ _)
  have HRY11 := hid (show Row w11 w4.heap.size 24 [.string df.chain, .int .i64 df.trust, .bool df.frozen, .slice o0y n0y m0y] by rw [← hs4]; exact set4_row HRY10.out _ _ _ _)
  have HRC11 := hid (row_kept HRC10.out (HO11.out _ (by have := HNE.out; omega)))
  have HRK11 := hid (row_kept HRK10.out (HO11.out _ (by have := HNE.out; omega)))
  have HRA11 := hid (row_kept HRA10.out (HO11.out _ (by have := HNE.out; omega)))
  have HRB11 := hid (row_kept HRB10.out (HO11.out _ (by have := HNE.out; omega)))
  have HRX11 := hid (row_kept HRX10.out (HO11.out _ (by have := HNE.out; omega)))
  have HKX11 := hid (((HKX10.out).onlyCl HRY10.out HO11.out).mono (Nat.le_of_eq HZ11.out.symm))
  have HKY11 := hid (((HKY10.out).onlyCl HRY10.out HO11.out).mono (Nat.le_of_eq HZ11.out.symm))
  have HW11 := hid hw11
  obtain ⟨⟨z0, z1, z2, z3⟩, f0, f1, f2, f3⟩ := HRY10.out.four
  clear hs4 hw11
  have HCX := hid (show ClV w11 w11.heap.size (.agg #[.string df.chain, .int .i64 df.trust, .bool df.frozen, .slice o0x n0x m0x]) df from ⟨_, rfl, HKX11.out⟩)
  have HCY := hid (show ClV w11 w11.heap.size (.agg #[.string df.chain, .int .i64 df.trust, .bool df.frozen, .slice o0y n0y m0y]) df from ⟨_, rfl, HKY11.out⟩)
  have HSM := hid (sameCl_any df _ _ w11.heap.size w11 (Nat.le_refl _) HCX.out HCY.out HFF.out)
  go_upto_region 11 with fail
  rw [HW11.out]
  clear z0 z1 z2 z3 f0 f1 f2 f3
  have eb : (ef != ef) = false := by simp
  obtain ⟨⟨x0, x1, x2, x3⟩, -⟩ := HRX11.out.four
  obtain ⟨⟨y0, y1, y2, y3⟩, -⟩ := HRY11.out.four
  go_wp2_with fail
  refine HSM.out.mono ?_
  rintro e w12 ⟨rfl, hb⟩
  have HRC12 := hid (HRC11.out.below hb HRC11.out.lt)
  have HRK12 := hid (HRK11.out.below hb HRK11.out.lt)
  have HRA12 := hid (HRA11.out.below hb HRA11.out.lt)
  have HRB12 := hid (HRB11.out.below hb HRB11.out.lt)
  have HRX12 := hid (HRX11.out.below hb HRX11.out.lt)
  have HRY12 := hid (HRY11.out.below hb HRY11.out.lt)
  have HB12 := hid (HB11.out.trans (hb.mono HB11.out.size))
  clear hb x0 x1 x2 x3 y0 y1 y2 y3 eb HSM HCX HCY
  obtain ⟨⟨a0, a1, a2, a3⟩, -⟩ := HRC12.out.four
  obtain ⟨⟨i0, i1, i2, i3, i4⟩, i5, i6, i7, i8, i9⟩ := HRA12.out.ten
  obtain ⟨⟨j0, j1, j2, j3, j4⟩, j5, j6, j7, j8, j9⟩ := HRB12.out.ten
  go_wp2_with fail
  refine (HC1.out _ HB12.out).mono ?_
  rintro e w13 ⟨hb, o1x, n1x, m1x, rfl, hkx⟩
  have HRC13 := hid (HRC12.out.below hb HRC12.out.lt)
  have HRK13 := hid (HRK12.out.below hb HRK12.out.lt)
  have HRA13 := hid (HRA12.out.below hb HRA12.out.lt)
  have HRB13 := hid (HRB12.out.below hb HRB12.out.lt)
  have HRX13 := hid (HRX12.out.below hb HRX12.out.lt)
  have HRY13 := hid (HRY12.out.below hb HRY12.out.lt)
  have HB13 := hid (HB12.out.trans (hb.mono HB12.out.size))
  have HKX13 := hid hkx
  clear hb hkx a0 a1 a2 a3 i0 i1 i2 i3 i4 i5 i6 i7 i8 i9 j0 j1 j2 j3 j4 j5 j6 j7 j8 j9
  obtain ⟨dc, hdc⟩ : ∃ d, catchC c a b now = d := ⟨_, rfl⟩
  obtain ⟨ec, hec⟩ : ∃ d, catchE c a b now = d := ⟨_, rfl⟩
  rw [hdc] at HKX13 HC2 HCFT
  rw [hec] at HC2
  rw [hdc, hec]
  clear hdc hec
  obtain ⟨w14, hw14⟩ : ∃ wn, (((w13.setCell ⟨w2.heap.size, 0, none⟩ (.string dc.chain)).setCell ⟨w2.heap.size, 1, none⟩ (.int .i64 dc.trust)).setCell ⟨w2.heap.size, 2, none⟩ (.bool dc.frozen)).setCell ⟨w2.heap.size, 3, none⟩ (.slice o1x n1x m1x) = wn := ⟨_, rfl⟩
  have hs4 : set4 w13 w2.heap.size (.string dc.chain) (.int .i64 dc.trust) (.bool dc.frozen) (.slice o1x n1x m1x) = w14 := hw14
  have HO14 := hid (show ∀ g, g ≠ w2.heap.size → w14.heap[g]? = w13.heap[g]? by rw [← hs4]; exact set4_other w13 _ _ _ _ _)
  have HZ14 := hid (show w14.heap.size = w13.heap.size by rw [← hs4]; exact set4_size _ _ _ _ _ _)
  have HB14 := hid (show Below w.heap.size w w14 by rw [← hs4]; exact set4_below HB13.out HSX.out _ _ _ _)
  have HRX14 := hid (show Row w14 w2.heap.size 24 [.string dc.chain, .int .i64 dc.trust, .bool dc.frozen, .slice o1x n1x m1x] by rw [← hs4]; exact set4_row HRX13.out _ _ _ _)
  have HRC14 := hid (row_kept HRC13.out (HO14.out _ (by have := HNE.out; omega)))
  have HRK14 := hid (row_kept HRK13.out (HO14.out _ (by have := HNE.out; omega)))
  have HRA14 := hid (row_kept HRA13.out (HO14.out _ (by have := HNE.out; omega)))
  have HRB14 := hid (row_kept HRB13.out (HO14.out _ (by have := HNE.out; omega)))
  have HRY14 := hid (row_kept HRY13.out (HO14.out _ (by have := HNE.out; omega)))
  have HKX14 := hid (((HKX13.out).onlyCl HRX13.out HO14.out).mono (Nat.le_of_eq HZ14.out.symm))
  have HW14 := hid hw14
  obtain ⟨⟨z0, z1, z2, z3⟩, f0, f1, f2, f3⟩ := HRX13.out.four
  clear hs4 hw14
  go_upto_region 14 with fail
  rw [HW14.out]
  clear z0 z1 z2 z3 f0 f1 f2 f3
  obtain ⟨⟨a0, a1, a2, a3⟩, -⟩ := HRC14.out.four
  obtain ⟨⟨i0, i1, i2, i3, i4⟩, i5, i6, i7, i8, i9⟩ := HRA14.out.ten
  obtain ⟨⟨j0, j1, j2, j3, j4⟩, j5, j6, j7, j8, j9⟩ := HRB14.out.ten
  go_wp2_with fail
  refine (HC2.out _ HB14.out).mono ?_
  rintro e w15 ⟨hb, o1y, n1y, m1y, rfl, hky⟩
  have HRC15 := hid (HRC14.out.below hb HRC14.out.lt)
  have HRK15 := hid (HRK14.out.below hb HRK14.out.lt)
  have HRA15 := hid (HRA14.out.below hb HRA14.out.lt)
  have HRB15 := hid (HRB14.out.below hb HRB14.out.lt)
  have HRX15 := hid (HRX14.out.below hb HRX14.out.lt)
  have HRY15 := hid (HRY14.out.below hb HRY14.out.lt)
  have HB15 := hid (HB14.out.trans (hb.mono HB14.out.size))
  have HKX15 := hid ((HKX14.out.below hb).mono hb.size)
  have HKY15 := hid hky
  clear hb hky a0 a1 a2 a3 i0 i1 i2 i3 i4 i5 i6 i7 i8 i9 j0 j1 j2 j3 j4 j5 j6 j7 j8 j9
  obtain ⟨w16, hw16⟩ : ∃ wn, (((w15.setCell ⟨w4.heap.size, 0, none⟩ (.string dc.chain)).setCell ⟨w4.heap.size, 1, none⟩ (.int .i64 dc.trust)).setCell ⟨w4.heap.size, 2, none⟩ (.bool dc.frozen)).setCell ⟨w4.heap.size, 3, none⟩ (.slice o1y n1y m1y) = wn := ⟨_, rfl⟩
  have hs4 : set4 w15 w4.heap.size (.string dc.chain) (.int .i64 dc.trust) (.bool dc.frozen) (.slice o1y n1y m1y) = w16 := hw16
  have HO16 := hid (show ∀ g, g ≠ w4.heap.size → w16.heap[g]? = w15.heap[g]? by rw [← hs4]; exact set4_other w15 _ _ _ _ _)
  have HZ16 := hid (show w16.heap.size = w15.heap.size by rw [← hs4]; exact set4_size _ _ _ _ _ _)
  have HB16 := hid (show Below w.heap.size w w16 by rw [← hs4]; exact set4_below HB15.out HSY.out _ _ _ _)
  have HRY16 := hid (show Row w16 w4.heap.size 24 [.string dc.chain, .int .i64 dc.trust, .bool dc.frozen, .slice o1y n1y m1y] by rw [← hs4]; exact set4_row HRY15.out _ _ _ _)
  have HRC16 := hid (row_kept HRC15.out (HO16.out _ (by have := HNE.out; omega)))
  have HRK16 := hid (row_kept HRK15.out (HO16.out _ (by have := HNE.out; omega)))
  have HRA16 := hid (row_kept HRA15.out (HO16.out _ (by have := HNE.out; omega)))
  have HRB16 := hid (row_kept HRB15.out (HO16.out _ (by have := HNE.out; omega)))
  have HRX16 := hid (row_kept HRX15.out (HO16.out _ (by have := HNE.out; omega)))
  have HKX16 := hid (((HKX15.out).onlyCl HRY15.out HO16.out).mono (Nat.le_of_eq HZ16.out.symm))
  have HKY16 := hid (((HKY15.out).onlyCl HRY15.out HO16.out).mono (Nat.le_of_eq HZ16.out.symm))
  have HW16 := hid hw16
  obtain ⟨⟨z0, z1, z2, z3⟩, f0, f1, f2, f3⟩ := HRY15.out.four
  clear hs4 hw16
  have HCX := hid (show ClV w16 w16.heap.size (.agg #[.string dc.chain, .int .i64 dc.trust, .bool dc.frozen, .slice o1x n1x m1x]) dc from ⟨_, rfl, HKX16.out⟩)
  have HCY := hid (show ClV w16 w16.heap.size (.agg #[.string dc.chain, .int .i64 dc.trust, .bool dc.frozen, .slice o1y n1y m1y]) dc from ⟨_, rfl, HKY16.out⟩)
  have HSM := hid (sameCl_any dc _ _ w16.heap.size w16 (Nat.le_refl _) HCX.out HCY.out HCFT.out)
  go_upto_region 15 with fail
  rw [HW16.out]
  clear z0 z1 z2 z3 f0 f1 f2 f3
  have eb : (ec == ec) = true := by simp
  obtain ⟨⟨x0, x1, x2, x3⟩, -⟩ := HRX16.out.four
  obtain ⟨⟨y0, y1, y2, y3⟩, -⟩ := HRY16.out.four
  go_wp2_with fail
  refine HSM.out.mono ?_
  rintro e w17 ⟨rfl, hb⟩
  have HRC17 := hid (HRC16.out.below hb HRC16.out.lt)
  have HRK17 := hid (HRK16.out.below hb HRK16.out.lt)
  have HRA17 := hid (HRA16.out.below hb HRA16.out.lt)
  have HRB17 := hid (HRB16.out.below hb HRB16.out.lt)
  have HRX17 := hid (HRX16.out.below hb HRX16.out.lt)
  have HRY17 := hid (HRY16.out.below hb HRY16.out.lt)
  have HB17 := hid (HB16.out.trans (hb.mono HB16.out.size))
  clear hb x0 x1 x2 x3 y0 y1 y2 y3 eb HSM HCX HCY
  go_wp2
  go_ret
  exact ⟨by first | done | rfl, HB17.out⟩
end Go.Proofs.YtiflkkelbnpniaaGreatDoor
