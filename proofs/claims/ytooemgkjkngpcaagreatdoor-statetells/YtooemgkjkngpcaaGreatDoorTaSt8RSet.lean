/-
  The document's Set onto a growing book; the drawn regions of its Book.
-/
import Derived.Test.YtooemgkjkngpcaaGreatDoorTaSt8RVal
import Derived.Test.YtooemgkjkngpcaaGreatDoorTaSt8RMarks
import Derived.Test.YtooemgkjkngpcaaGreatDoorTaRef4P
namespace Go.Proofs.YtooemgkjkngpcaaGreatDoor
open Go.RowKit

/-- a book that grows, in the call's own memory; what stands in it may be anywhere -/
def Acc (w : World) (v : Value) (l : List Pr) : Prop := ∃ ps : List PrV, RowPr w 0 v ps ∧ (∀ q ∈ ps, q.ok w w.heap.size) ∧ (∀ p ∈ l, p.fits) ∧ ps.map (·.p) = l
theorem Acc.nil (w : World) : Acc w (.slice none 0 0) [] := ⟨[], RowPr.nil _ _, fun _ h => (by cases h), fun _ h => (by cases h), rfl⟩
theorem Acc.below {w w' : World} {v : Value} {l : List Pr} (h : Acc w v l) (hg : Below w.heap.size w w') : Acc w' v l := by
  obtain ⟨ps, h1, h2, h3, h4⟩ := h
  exact ⟨ps, h1.below hg, fun q hq => ((h2 q hq).below hg).mono hg.size, h3, h4⟩
theorem Acc.pairs {w : World} {v : Value} {l : List Pr} (h : Acc w v l) : Pairs w w.heap.size v l := by
  obtain ⟨ps, h1, h2, h3, rfl⟩ := h
  exact h1.pairs (Nat.le_refl _) h2
theorem set8_any (l : List Pr) (sv kv vv : Value) (k x : List (BitVec 8)) (w : World) (h : Acc w sv l) (hk : Bytes w w.heap.size kv k) (hx : Bytes w w.heap.size vv x) (hl : l.length ≤ 1000) (hf : k.length ≤ 140737488351232 ∧ x.length ≤ 140737488351232) :
    Calls Tryz.prog 49 #[sv, .agg #[kv, vv]] w fun e w' => ∃ v, e = .returned v ∧ Acc w' v (setP ⟨k, x⟩ l) ∧ Below w.heap.size w w' := by
  obtain ⟨ps, h1, h2, h3, rfl⟩ := h
  refine (refSet_any ps ⟨⟨k, x⟩, kv, vv⟩ sv w.heap.size w.heap.size w (Nat.le_refl _) (Nat.le_refl _) h1.src h2 (fun q hq => h3 _ (List.mem_map_of_mem hq)) ⟨hk, hx⟩ hf (by simpa using hl)).mono ?_
  rintro e w' ⟨hb, v, rfl, hr⟩
  refine ⟨v, rfl, ⟨_, hr.mono (Nat.zero_le _), fun q hq => ?_, fun p hp => ?_, setV_map _ _⟩, hb⟩
  · rcases mem_setV hq with rfl | hq
    · exact ⟨(hk.below hb).mono hb.size, (hx.below hb).mono hb.size⟩
    · exact ((h2 q hq).below hb).mono hb.size
  · rw [← setV_map ⟨⟨k, x⟩, kv, vv⟩ ps] at hp
    obtain ⟨q, hq, rfl⟩ := List.mem_map.1 hp
    rcases mem_setV hq with rfl | hq
    · exact hf
    · exact h3 _ (List.mem_map_of_mem hq)
set_option maxRecDepth 100000 in
set_option maxHeartbeats 4000000 in
theorem bkConnRegion {y0 y1 y2 y3 y4 y8 y9 y10 y11 y12 y13 y14 y15 y16 y17 y18 y19 y20 y21 y22 y23 y24 y25 y26 y34 y35 y36 y37 y38 y39 y40 y41 y42 y43 y44 y45 y46 y47 y48 y49 y50 y51 y52 y53 y54 y55 y56 y57 y58 y59 y60 y61 y62 y63 y64 y65 y66 y67 y68 y69 y70 y71 y72 y73 y74 y75 y76 y77 y78 y79 y80 y81 y82 y83 y84 y85 y86 y87 y88 y89 y90 y91 y92 y93 y94 y95 y96 y97 z27 z28 z29 z30 z31 z32 z33 : Value} {gc : Nat} (l : List Pr) (sv : Value) (c : Cn) (k : Nat) {w : World} (hA : Hid (Acc w sv l)) (hlen : l.length ≤ 1000) (hrc : Hid (Row w gc 58 [.int .i64 c.state, .int .i64 c.client, .int .i64 c.oclient, .int .i64 c.oconn])) (hc : Hid (wrongCn c = 0)) (_hk : k ≤ 1000) (hfit : (keyL kwConn [k]).length ≤ 140737488351232 ∧ (connB c).length ≤ 140737488351232) (Q : Exit → Act → World → Prop)
    (hQ : Hid (∀ (σ : Nat → Value) (kv vv v : Value) (w' : World), Acc w' v (setP ⟨keyL kwConn [k], connB c⟩ l) → Below w.heap.size w w' → Q .normal ⟨#[y0, y1, y2, y3, y4, v, .int .i64 (k : Int), .pointer (some ⟨gc, 0, none⟩), y8, y9, y10, y11, y12, y13, y14, y15, y16, y17, y18, y19, y20, y21, y22, y23, y24, y25, y26, sv, σ 1, σ 2, σ 3, σ 4, σ 5, .agg #[kv, vv], v, y35, y36, y37, y38, y39, y40, y41, y42, y43, y44, y45, y46, y47, y48, y49, y50, y51, y52, y53, y54, y55, y56, y57, y58, y59, y60, y61, y62, y63, y64, y65, y66, y67, y68, y69, y70, y71, y72, y73, y74, y75, y76, y77, y78, y79, y80, y81, y82, y83, y84, y85, y86, y87, y88, y89, y90, y91, y92, y93, y94, y95, y96, y97], []⟩ w')) :
    Code.wp Tryz.prog (.region 8 ((Tryz.f10.body.bind (regOf 8)).getD #[]) true) Q ⟨#[y0, y1, y2, y3, y4, sv, .int .i64 (k : Int), .pointer (some ⟨gc, 0, none⟩), y8, y9, y10, y11, y12, y13, y14, y15, y16, y17, y18, y19, y20, y21, y22, y23, y24, y25, y26, z27, z28, z29, z30, z31, z32, z33, y34, y35, y36, y37, y38, y39, y40, y41, y42, y43, y44, y45, y46, y47, y48, y49, y50, y51, y52, y53, y54, y55, y56, y57, y58, y59, y60, y61, y62, y63, y64, y65, y66, y67, y68, y69, y70, y71, y72, y73, y74, y75, y76, y77, y78, y79, y80, y81, y82, y83, y84, y85, y86, y87, y88, y89, y90, y91, y92, y93, y94, y95, y96, y97], []⟩ w := by
  conv => arg 2; arg 2; whnf
  conv => arg 4; dsimp only
  refine region_grows_tail 7 (by kernel_rfl) (fun σ => #[y0, y1, y2, y3, y4, sv, .int .i64 (k : Int), .pointer (some ⟨gc, 0, none⟩), y8, y9, y10, y11, y12, y13, y14, y15, y16, y17, y18, y19, y20, y21, y22, y23, y24, y25, y26, σ 0, σ 1, σ 2, σ 3, σ 4, σ 5, σ 6, y34, y35, y36, y37, y38, y39, y40, y41, y42, y43, y44, y45, y46, y47, y48, y49, y50, y51, y52, y53, y54, y55, y56, y57, y58, y59, y60, y61, y62, y63, y64, y65, y66, y67, y68, y69, y70, y71, y72, y73, y74, y75, y76, y77, y78, y79, y80, y81, y82, y83, y84, y85, y86, y87, y88, y89, y90, y91, y92, y93, y94, y95, y96, y97]) (fun i => ([z27, z28, z29, z30, z31, z32, z33] : List Value).getD i undef) rfl (fun i X W => match i with
    | 0 => X = sv
    | 1 => X = .int .i64 (k : Int)
    | 2 => ∃ q, X = .slice (some ⟨q, 0, none⟩) 1 1 ∧ Row W q 3 [.int .i64 (k : Int)]
    | 3 => Bytes W W.heap.size X (keyL kwConn [k])
    | 4 => X = .agg #[.int .i64 c.state, .int .i64 c.client, .int .i64 c.oclient, .int .i64 c.oconn]
    | 5 => Bytes W W.heap.size X (connB c)
    | 6 => ∃ kv vv, X = .agg #[kv, vv] ∧ Bytes W W.heap.size kv (keyL kwConn [k]) ∧ Bytes W W.heap.size vv (connB c)
    | _ => True) ?_ (by kernel_rfl) ?_ ?_
  · intro i X W W' HB H
    match i, H with
    | 0, H => exact H
    | 1, H => exact H
    | 2, H => exact (by obtain ⟨q, e, hr⟩ := H; exact ⟨q, e, hr.below HB hr.lt⟩)
    | 3, H => exact (H.below HB).mono HB.size
    | 4, H => exact H
    | 5, H => exact (H.below HB).mono HB.size
    | 6, H => exact (by obtain ⟨kv, vv, e, h1, h2⟩ := H; exact ⟨kv, vv, e, (h1.below HB).mono HB.size, (h2.below HB).mono HB.size⟩)
    | _ + 7, _ => exact trivial
  · refine ⟨?_, ?_, ?_, ?_, ?_, ?_, ?_, trivial⟩
    · -- 0: Op.move t5
      intro σ W HJ hdep
      simp [Region.binds] at hdep
      have HJ := hid HJ
      refine wpOp_plain rfl rfl ?_
      go_simp
      exact Left.mk0 (sv) (by first | rfl | simp [updF, *]) HJ.out rfl
    · -- 1: Op.move t6
      intro σ W HJ hdep
      simp [Region.binds] at hdep
      have HJ := hid HJ
      refine wpOp_plain rfl rfl ?_
      go_simp
      exact Left.mk0 (.int .i64 (k : Int)) (by first | rfl | simp [updF, *]) HJ.out rfl
    · -- 2: Op.buildSlice 147 1 #[(0, t28)]
      intro σ W HJ hdep
      simp [Region.binds] at hdep
      have HJ := hid HJ
      refine wpOp_plain rfl rfl ?_
      go_simp
      exact Left.mk (.slice (some ⟨W.heap.size, 0, none⟩) 1 1) (by first | rfl | simp [updF, *]) ((Below.refl _ _).alloc (Nat.le_refl _) _) HJ.out ⟨W.heap.size, rfl, Row.new _ _ _⟩
    · -- 3: Op.call { value (Operand.func 62), args := #[const (Value.st
      intro σ W HJ hdep
      simp [Region.binds] at hdep
      have HJ := hid HJ
      obtain ⟨q, eq, hrow⟩ : ∃ q, σ 2 = .slice (some ⟨q, 0, none⟩) 1 1 ∧ Row W q 3 [.int .i64 (k : Int)] := by first | exact hdep | exact hdep.1 | exact hdep.2 | exact hdep.2.1 | exact hdep.2.2
      have HC := hid (refKey_any8 ⟨#[99, 111, 110, 110]⟩ [(k : Int)] q 1 W (by decide) hrow rfl (by decide) (fun n hn => by simp at hn; omega))
      clear hdep hrow
      refine wpOp_plain rfl rfl ?_
      go_simp
      refine HC.out.mono ?_
      rintro e w2 ⟨v, rfl, hown, hb2⟩
      exact Left.mk v (by first | rfl | simp [updF, *]) hb2 HJ.out hown
    · -- 4: Op.load 82 t7
      intro σ W HJ hdep
      simp [Region.binds] at hdep
      have HJ := hid HJ
      have k0 := (hrc.out.below HJ.out hrc.out.lt).cell 0
      have k1 := (hrc.out.below HJ.out hrc.out.lt).cell 1
      have k2 := (hrc.out.below HJ.out hrc.out.lt).cell 2
      have k3 := (hrc.out.below HJ.out hrc.out.lt).cell 3
      simp at k0
      simp at k1
      simp at k2
      simp at k3
      refine wpOp_plain rfl rfl ?_
      go_simp
      exact Left.mk0 (.agg #[.int .i64 c.state, .int .i64 c.client, .int .i64 c.oclient, .int .i64 c.oconn]) (by first | rfl | simp [updF, *]) HJ.out rfl
    · -- 5: Op.call { value (Operand.func 63), args := #[t31], argTypes 
      intro σ W HJ hdep
      simp [Region.binds] at hdep
      have HJ := hid HJ
      have HC := hid (refConn_any c hc.out W)
      refine wpOp_plain rfl rfl ?_
      go_simp
      refine HC.out.mono ?_
      rintro e w2 ⟨v, rfl, hown, hb2⟩
      exact Left.mk v (by first | rfl | simp [updF, *]) hb2 HJ.out hown
    · -- 6: Op.build 116 #[(0, t30), (1, t32)]
      intro σ W HJ hdep
      simp [Region.binds] at hdep
      have HJ := hid HJ
      have o3 : Bytes W W.heap.size (σ 3) (keyL kwConn [k]) := hdep.1
      have o5 : Bytes W W.heap.size (σ 5) (connB c) := hdep.2
      have O3 := hid o3
      have O5 := hid o5
      obtain ⟨oa, ca, ea, _⟩ := o3.shape
      obtain ⟨ob, cb, eb, _⟩ := o5.shape
      rw [ea] at O3
      rw [eb] at O5
      generalize hna : (keyL kwConn [k]).length = na at *
      generalize hnb : (connB c).length = nb at *
      clear hdep o3 o5 hna hnb
      refine wpOp_plain rfl rfl ?_
      go_simp
      exact Left.mk0 (.agg #[.slice oa na ca, .slice ob nb cb]) (by first | rfl | simp [updF, *]) HJ.out ⟨_, _, rfl, O3.out, O5.out⟩
  · intro σ W hj hg
    have HJ := hid hj
    clear hj
    simp only [List.drop_succ_cons, List.drop_zero]
    have e0 : σ 0 = sv := hg 0 (by decide)
    obtain ⟨kv, vv, e6, o3, o5⟩ : ∃ kv vv, σ 6 = .agg #[kv, vv] ∧ Bytes W W.heap.size kv (keyL kwConn [k]) ∧ Bytes W W.heap.size vv (connB c) := hg 6 (by decide)
    have HP := hid (set8_any l sv kv vv (keyL kwConn [k]) (connB c) W (hA.out.below HJ.out) o3 o5 hlen hfit)
    have HJ2 := HJ
    clear hg o3 o5
    rw [e0, e6]
    clear e0 e6
    go_wp2_with fail
    refine HP.out.mono ?_
    rintro e w2 ⟨v, rfl, hA2, hb2⟩
    have HA2 := hid hA2
    have HB2 := hid (HJ2.out.trans (hb2.mono HJ2.out.size))
    clear hA2 hb2
    go_wp2
    exact hQ.out σ kv vv v w2 HA2.out HB2.out
set_option maxRecDepth 100000 in
set_option maxHeartbeats 4000000 in
theorem bkChanRegion {y0 y1 y2 y3 y4 y6 y7 y10 y11 y12 y13 y14 y15 y16 y17 y18 y19 y20 y21 y22 y23 y24 y25 y26 y27 y28 y29 y30 y31 y32 y33 y34 y35 y36 y37 y38 y39 y40 y41 y42 y43 y51 y52 y53 y54 y55 y56 y57 y58 y59 y60 y61 y62 y63 y64 y65 y66 y67 y68 y69 y70 y71 y72 y73 y74 y75 y76 y77 y78 y79 y80 y81 y82 y83 y84 y85 y86 y87 y88 y89 y90 y91 y92 y93 y94 y95 y96 y97 z44 z45 z46 z47 z48 z49 z50 : Value} {gc : Nat} (l : List Pr) (sv : Value) (c : Ch) (k : Nat) {w : World} (hA : Hid (Acc w sv l)) (hlen : l.length ≤ 1000) (hrc : Hid (Row w gc 75 [.int .i64 c.state, .bool c.ordered, .int .i64 c.conn, .int .i64 c.ochan, .int .i64 c.send, .int .i64 c.recv, .int .i64 c.ack])) (hc : Hid (wrongCh c = 0)) (_hk : k ≤ 1000) (hfit : (keyL kwChan [k]).length ≤ 140737488351232 ∧ (chanB c).length ≤ 140737488351232) (Q : Exit → Act → World → Prop)
    (hQ : Hid (∀ (σ : Nat → Value) (kv vv v : Value) (w' : World), Acc w' v (setP ⟨keyL kwChan [k], chanB c⟩ l) → Below w.heap.size w w' → Q .normal ⟨#[y0, y1, y2, y3, y4, v, y6, y7, .int .i64 (k : Int), .pointer (some ⟨gc, 0, none⟩), y10, y11, y12, y13, y14, y15, y16, y17, y18, y19, y20, y21, y22, y23, y24, y25, y26, y27, y28, y29, y30, y31, y32, y33, y34, y35, y36, y37, y38, y39, y40, y41, y42, y43, sv, σ 1, σ 2, σ 3, σ 4, σ 5, .agg #[kv, vv], v, y52, y53, y54, y55, y56, y57, y58, y59, y60, y61, y62, y63, y64, y65, y66, y67, y68, y69, y70, y71, y72, y73, y74, y75, y76, y77, y78, y79, y80, y81, y82, y83, y84, y85, y86, y87, y88, y89, y90, y91, y92, y93, y94, y95, y96, y97], []⟩ w')) :
    Code.wp Tryz.prog (.region 13 ((Tryz.f10.body.bind (regOf 13)).getD #[]) true) Q ⟨#[y0, y1, y2, y3, y4, sv, y6, y7, .int .i64 (k : Int), .pointer (some ⟨gc, 0, none⟩), y10, y11, y12, y13, y14, y15, y16, y17, y18, y19, y20, y21, y22, y23, y24, y25, y26, y27, y28, y29, y30, y31, y32, y33, y34, y35, y36, y37, y38, y39, y40, y41, y42, y43, z44, z45, z46, z47, z48, z49, z50, y51, y52, y53, y54, y55, y56, y57, y58, y59, y60, y61, y62, y63, y64, y65, y66, y67, y68, y69, y70, y71, y72, y73, y74, y75, y76, y77, y78, y79, y80, y81, y82, y83, y84, y85, y86, y87, y88, y89, y90, y91, y92, y93, y94, y95, y96, y97], []⟩ w := by
  conv => arg 2; arg 2; whnf
  conv => arg 4; dsimp only
  refine region_grows_tail 7 (by kernel_rfl) (fun σ => #[y0, y1, y2, y3, y4, sv, y6, y7, .int .i64 (k : Int), .pointer (some ⟨gc, 0, none⟩), y10, y11, y12, y13, y14, y15, y16, y17, y18, y19, y20, y21, y22, y23, y24, y25, y26, y27, y28, y29, y30, y31, y32, y33, y34, y35, y36, y37, y38, y39, y40, y41, y42, y43, σ 0, σ 1, σ 2, σ 3, σ 4, σ 5, σ 6, y51, y52, y53, y54, y55, y56, y57, y58, y59, y60, y61, y62, y63, y64, y65, y66, y67, y68, y69, y70, y71, y72, y73, y74, y75, y76, y77, y78, y79, y80, y81, y82, y83, y84, y85, y86, y87, y88, y89, y90, y91, y92, y93, y94, y95, y96, y97]) (fun i => ([z44, z45, z46, z47, z48, z49, z50] : List Value).getD i undef) rfl (fun i X W => match i with
    | 0 => X = sv
    | 1 => X = .int .i64 (k : Int)
    | 2 => ∃ q, X = .slice (some ⟨q, 0, none⟩) 1 1 ∧ Row W q 3 [.int .i64 (k : Int)]
    | 3 => Bytes W W.heap.size X (keyL kwChan [k])
    | 4 => X = .agg #[.int .i64 c.state, .bool c.ordered, .int .i64 c.conn, .int .i64 c.ochan, .int .i64 c.send, .int .i64 c.recv, .int .i64 c.ack]
    | 5 => Bytes W W.heap.size X (chanB c)
    | 6 => ∃ kv vv, X = .agg #[kv, vv] ∧ Bytes W W.heap.size kv (keyL kwChan [k]) ∧ Bytes W W.heap.size vv (chanB c)
    | _ => True) ?_ (by kernel_rfl) ?_ ?_
  · intro i X W W' HB H
    match i, H with
    | 0, H => exact H
    | 1, H => exact H
    | 2, H => exact (by obtain ⟨q, e, hr⟩ := H; exact ⟨q, e, hr.below HB hr.lt⟩)
    | 3, H => exact (H.below HB).mono HB.size
    | 4, H => exact H
    | 5, H => exact (H.below HB).mono HB.size
    | 6, H => exact (by obtain ⟨kv, vv, e, h1, h2⟩ := H; exact ⟨kv, vv, e, (h1.below HB).mono HB.size, (h2.below HB).mono HB.size⟩)
    | _ + 7, _ => exact trivial
  · refine ⟨?_, ?_, ?_, ?_, ?_, ?_, ?_, trivial⟩
    · -- 0: Op.move t5
      intro σ W HJ hdep
      simp [Region.binds] at hdep
      have HJ := hid HJ
      refine wpOp_plain rfl rfl ?_
      go_simp
      exact Left.mk0 (sv) (by first | rfl | simp [updF, *]) HJ.out rfl
    · -- 1: Op.move t8
      intro σ W HJ hdep
      simp [Region.binds] at hdep
      have HJ := hid HJ
      refine wpOp_plain rfl rfl ?_
      go_simp
      exact Left.mk0 (.int .i64 (k : Int)) (by first | rfl | simp [updF, *]) HJ.out rfl
    · -- 2: Op.buildSlice 147 1 #[(0, t45)]
      intro σ W HJ hdep
      simp [Region.binds] at hdep
      have HJ := hid HJ
      refine wpOp_plain rfl rfl ?_
      go_simp
      exact Left.mk (.slice (some ⟨W.heap.size, 0, none⟩) 1 1) (by first | rfl | simp [updF, *]) ((Below.refl _ _).alloc (Nat.le_refl _) _) HJ.out ⟨W.heap.size, rfl, Row.new _ _ _⟩
    · -- 3: Op.call { value (Operand.func 62), args := #[const (Value.st
      intro σ W HJ hdep
      simp [Region.binds] at hdep
      have HJ := hid HJ
      obtain ⟨q, eq, hrow⟩ : ∃ q, σ 2 = .slice (some ⟨q, 0, none⟩) 1 1 ∧ Row W q 3 [.int .i64 (k : Int)] := by first | exact hdep | exact hdep.1 | exact hdep.2 | exact hdep.2.1 | exact hdep.2.2
      have HC := hid (refKey_any8 ⟨#[99, 104, 97, 110]⟩ [(k : Int)] q 1 W (by decide) hrow rfl (by decide) (fun n hn => by simp at hn; omega))
      clear hdep hrow
      refine wpOp_plain rfl rfl ?_
      go_simp
      refine HC.out.mono ?_
      rintro e w2 ⟨v, rfl, hown, hb2⟩
      exact Left.mk v (by first | rfl | simp [updF, *]) hb2 HJ.out hown
    · -- 4: Op.load 86 t9
      intro σ W HJ hdep
      simp [Region.binds] at hdep
      have HJ := hid HJ
      have k0 := (hrc.out.below HJ.out hrc.out.lt).cell 0
      have k1 := (hrc.out.below HJ.out hrc.out.lt).cell 1
      have k2 := (hrc.out.below HJ.out hrc.out.lt).cell 2
      have k3 := (hrc.out.below HJ.out hrc.out.lt).cell 3
      have k4 := (hrc.out.below HJ.out hrc.out.lt).cell 4
      have k5 := (hrc.out.below HJ.out hrc.out.lt).cell 5
      have k6 := (hrc.out.below HJ.out hrc.out.lt).cell 6
      simp at k0
      simp at k1
      simp at k2
      simp at k3
      simp at k4
      simp at k5
      simp at k6
      refine wpOp_plain rfl rfl ?_
      go_simp
      exact Left.mk0 (.agg #[.int .i64 c.state, .bool c.ordered, .int .i64 c.conn, .int .i64 c.ochan, .int .i64 c.send, .int .i64 c.recv, .int .i64 c.ack]) (by first | rfl | simp [updF, *]) HJ.out rfl
    · -- 5: Op.call { value (Operand.func 64), args := #[t48], argTypes 
      intro σ W HJ hdep
      simp [Region.binds] at hdep
      have HJ := hid HJ
      have HC := hid (refChan_any c hc.out W)
      refine wpOp_plain rfl rfl ?_
      go_simp
      refine HC.out.mono ?_
      rintro e w2 ⟨v, rfl, hown, hb2⟩
      exact Left.mk v (by first | rfl | simp [updF, *]) hb2 HJ.out hown
    · -- 6: Op.build 116 #[(0, t47), (1, t49)]
      intro σ W HJ hdep
      simp [Region.binds] at hdep
      have HJ := hid HJ
      have o3 : Bytes W W.heap.size (σ 3) (keyL kwChan [k]) := hdep.1
      have o5 : Bytes W W.heap.size (σ 5) (chanB c) := hdep.2
      have O3 := hid o3
      have O5 := hid o5
      obtain ⟨oa, ca, ea, _⟩ := o3.shape
      obtain ⟨ob, cb, eb, _⟩ := o5.shape
      rw [ea] at O3
      rw [eb] at O5
      generalize hna : (keyL kwChan [k]).length = na at *
      generalize hnb : (chanB c).length = nb at *
      clear hdep o3 o5 hna hnb
      refine wpOp_plain rfl rfl ?_
      go_simp
      exact Left.mk0 (.agg #[.slice oa na ca, .slice ob nb cb]) (by first | rfl | simp [updF, *]) HJ.out ⟨_, _, rfl, O3.out, O5.out⟩
  · intro σ W hj hg
    have HJ := hid hj
    clear hj
    simp only [List.drop_succ_cons, List.drop_zero]
    have e0 : σ 0 = sv := hg 0 (by decide)
    obtain ⟨kv, vv, e6, o3, o5⟩ : ∃ kv vv, σ 6 = .agg #[kv, vv] ∧ Bytes W W.heap.size kv (keyL kwChan [k]) ∧ Bytes W W.heap.size vv (chanB c) := hg 6 (by decide)
    have HP := hid (set8_any l sv kv vv (keyL kwChan [k]) (chanB c) W (hA.out.below HJ.out) o3 o5 hlen hfit)
    have HJ2 := HJ
    clear hg o3 o5
    rw [e0, e6]
    clear e0 e6
    go_wp2_with fail
    refine HP.out.mono ?_
    rintro e w2 ⟨v, rfl, hA2, hb2⟩
    have HA2 := hid hA2
    have HB2 := hid (HJ2.out.trans (hb2.mono HJ2.out.size))
    clear hA2 hb2
    go_wp2
    exact hQ.out σ kv vv v w2 HA2.out HB2.out
set_option maxRecDepth 100000 in
set_option maxHeartbeats 4000000 in
theorem bkNextRegion {y0 y1 y2 y3 y4 y6 y7 y10 y11 y12 y13 y14 y15 y16 y17 y18 y19 y20 y21 y22 y23 y24 y25 y26 y27 y28 y29 y30 y31 y32 y33 y34 y35 y36 y37 y38 y39 y40 y41 y42 y43 y44 y45 y46 y47 y48 y49 y50 y51 y62 y63 y64 y65 y66 y67 y68 y69 y70 y71 y72 y73 y74 y75 y76 y77 y78 y79 y80 y81 y82 y83 y84 y85 y86 y87 y88 y89 y90 y91 y92 y93 y94 y95 y96 y97 z52 z53 z54 z55 z56 z57 z58 z59 z60 z61 : Value} {gc : Nat} (l : List Pr) (sv : Value) (c : Ch) (k r : Nat) (x : List (BitVec 8)) {w : World} (hA : Hid (Acc w sv l)) (hlen : l.length ≤ 1000) (hrc : Hid (Row w gc 75 [.int .i64 c.state, .bool c.ordered, .int .i64 c.conn, .int .i64 c.ochan, .int .i64 c.send, .int .i64 (r : Int), .int .i64 c.ack])) (_hk : k ≤ 1000) (_hrn : r < 9223372036854775808) (hx : Hid (wrAll [⟨1, r, []⟩] = .ok x)) (hpf : Hid (∀ p ∈ ([⟨1, r, []⟩] : List Pc), p.fits)) (hfit : (keyL kwNext [k]).length ≤ 140737488351232 ∧ x.length ≤ 140737488351232) (Q : Exit → Act → World → Prop)
    (hQ : Hid (∀ (σ : Nat → Value) (kv vv v : Value) (w' : World), Acc w' v (setP ⟨keyL kwNext [k], x⟩ l) → Below w.heap.size w w' → Q .normal ⟨#[y0, y1, y2, y3, y4, v, y6, y7, .int .i64 (k : Int), .pointer (some ⟨gc, 0, none⟩), y10, y11, y12, y13, y14, y15, y16, y17, y18, y19, y20, y21, y22, y23, y24, y25, y26, y27, y28, y29, y30, y31, y32, y33, y34, y35, y36, y37, y38, y39, y40, y41, y42, y43, y44, y45, y46, y47, y48, y49, y50, y51, sv, σ 1, σ 2, σ 3, σ 4, σ 5, σ 6, σ 7, σ 8, .agg #[kv, vv], v, y63, y64, y65, y66, y67, y68, y69, y70, y71, y72, y73, y74, y75, y76, y77, y78, y79, y80, y81, y82, y83, y84, y85, y86, y87, y88, y89, y90, y91, y92, y93, y94, y95, y96, y97], []⟩ w')) :
    Code.wp Tryz.prog (.region 14 ((Tryz.f10.body.bind (regOf 14)).getD #[]) true) Q ⟨#[y0, y1, y2, y3, y4, sv, y6, y7, .int .i64 (k : Int), .pointer (some ⟨gc, 0, none⟩), y10, y11, y12, y13, y14, y15, y16, y17, y18, y19, y20, y21, y22, y23, y24, y25, y26, y27, y28, y29, y30, y31, y32, y33, y34, y35, y36, y37, y38, y39, y40, y41, y42, y43, y44, y45, y46, y47, y48, y49, y50, y51, z52, z53, z54, z55, z56, z57, z58, z59, z60, z61, y62, y63, y64, y65, y66, y67, y68, y69, y70, y71, y72, y73, y74, y75, y76, y77, y78, y79, y80, y81, y82, y83, y84, y85, y86, y87, y88, y89, y90, y91, y92, y93, y94, y95, y96, y97], []⟩ w := by
  conv => arg 2; arg 2; whnf
  conv => arg 4; dsimp only
  refine region_grows_tail 10 (by kernel_rfl) (fun σ => #[y0, y1, y2, y3, y4, sv, y6, y7, .int .i64 (k : Int), .pointer (some ⟨gc, 0, none⟩), y10, y11, y12, y13, y14, y15, y16, y17, y18, y19, y20, y21, y22, y23, y24, y25, y26, y27, y28, y29, y30, y31, y32, y33, y34, y35, y36, y37, y38, y39, y40, y41, y42, y43, y44, y45, y46, y47, y48, y49, y50, y51, σ 0, σ 1, σ 2, σ 3, σ 4, σ 5, σ 6, σ 7, σ 8, σ 9, y62, y63, y64, y65, y66, y67, y68, y69, y70, y71, y72, y73, y74, y75, y76, y77, y78, y79, y80, y81, y82, y83, y84, y85, y86, y87, y88, y89, y90, y91, y92, y93, y94, y95, y96, y97]) (fun i => ([z52, z53, z54, z55, z56, z57, z58, z59, z60, z61] : List Value).getD i undef) rfl (fun i X W => match i with
    | 0 => X = sv
    | 1 => X = .int .i64 (k : Int)
    | 2 => ∃ q, X = .slice (some ⟨q, 0, none⟩) 1 1 ∧ Row W q 3 [.int .i64 (k : Int)]
    | 3 => Bytes W W.heap.size X (keyL kwNext [k])
    | 4 => X = .pointer (some ⟨gc, 5, none⟩)
    | 5 => X = .int .i64 (r : Int)
    | 6 => X = .agg #[.int .i64 1, .int .u64 (r : Int), .slice none 0 0]
    | 7 => Pieces W W.heap.size X [⟨1, r, []⟩]
    | 8 => Bytes W W.heap.size X (x)
    | 9 => ∃ kv vv, X = .agg #[kv, vv] ∧ Bytes W W.heap.size kv (keyL kwNext [k]) ∧ Bytes W W.heap.size vv (x)
    | _ => True) ?_ (by kernel_rfl) ?_ ?_
  · intro i X W W' HB H
    match i, H with
    | 0, H => exact H
    | 1, H => exact H
    | 2, H => exact (by obtain ⟨q, e, hr⟩ := H; exact ⟨q, e, hr.below HB hr.lt⟩)
    | 3, H => exact (H.below HB).mono HB.size
    | 4, H => exact H
    | 5, H => exact H
    | 6, H => exact H
    | 7, H => exact (H.below HB).mono HB.size
    | 8, H => exact (H.below HB).mono HB.size
    | 9, H => exact (by obtain ⟨kv, vv, e, h1, h2⟩ := H; exact ⟨kv, vv, e, (h1.below HB).mono HB.size, (h2.below HB).mono HB.size⟩)
    | _ + 10, _ => exact trivial
  · refine ⟨?_, ?_, ?_, ?_, ?_, ?_, ?_, ?_, ?_, ?_, trivial⟩
    · -- 0: Op.move t5
      intro σ W HJ hdep
      simp [Region.binds] at hdep
      have HJ := hid HJ
      refine wpOp_plain rfl rfl ?_
      go_simp
      exact Left.mk0 (sv) (by first | rfl | simp [updF, *]) HJ.out rfl
    · -- 1: Op.move t8
      intro σ W HJ hdep
      simp [Region.binds] at hdep
      have HJ := hid HJ
      refine wpOp_plain rfl rfl ?_
      go_simp
      exact Left.mk0 (.int .i64 (k : Int)) (by first | rfl | simp [updF, *]) HJ.out rfl
    · -- 2: Op.buildSlice 147 1 #[(0, t53)]
      intro σ W HJ hdep
      simp [Region.binds] at hdep
      have HJ := hid HJ
      refine wpOp_plain rfl rfl ?_
      go_simp
      exact Left.mk (.slice (some ⟨W.heap.size, 0, none⟩) 1 1) (by first | rfl | simp [updF, *]) ((Below.refl _ _).alloc (Nat.le_refl _) _) HJ.out ⟨W.heap.size, rfl, Row.new _ _ _⟩
    · -- 3: Op.call { value (Operand.func 62), args := #[const (Value.st
      intro σ W HJ hdep
      simp [Region.binds] at hdep
      have HJ := hid HJ
      obtain ⟨q, eq, hrow⟩ : ∃ q, σ 2 = .slice (some ⟨q, 0, none⟩) 1 1 ∧ Row W q 3 [.int .i64 (k : Int)] := by first | exact hdep | exact hdep.1 | exact hdep.2 | exact hdep.2.1 | exact hdep.2.2
      have HC := hid (refKey_any8 ⟨#[110, 101, 120, 116]⟩ [(k : Int)] q 1 W (by decide) hrow rfl (by decide) (fun n hn => by simp at hn; omega))
      clear hdep hrow
      refine wpOp_plain rfl rfl ?_
      go_simp
      refine HC.out.mono ?_
      rintro e w2 ⟨v, rfl, hown, hb2⟩
      exact Left.mk v (by first | rfl | simp [updF, *]) hb2 HJ.out hown
    · -- 4: Op.fieldAddr 86 t9 5
      intro σ W HJ hdep
      simp [Region.binds] at hdep
      have HJ := hid HJ
      refine wpOp_plain rfl rfl ?_
      go_simp
      exact Left.mk0 (.pointer (some ⟨gc, 5, none⟩)) (by first | rfl | simp [updF, *]) HJ.out rfl
    · -- 5: Op.load 3 t56
      intro σ W HJ hdep
      simp [Region.binds] at hdep
      have HJ := hid HJ
      have kc := (hrc.out.below HJ.out hrc.out.lt).cell 5
      simp at kc
      refine wpOp_plain rfl rfl ?_
      go_simp
      exact Left.mk0 (.int .i64 (r : Int)) (by first | rfl | simp [updF, *]) HJ.out rfl
    · -- 6: Op.call { value (Operand.func 66), args := #[t57], argTypes 
      intro σ W HJ hdep
      simp [Region.binds] at hdep
      have HJ := hid HJ
      refine wpOp_plain rfl rfl ?_
      go_simp
      refine (refN_any r W (by omega)).mono ?_
      rintro e w2 ⟨rfl, hb2⟩
      exact Left.mk (.agg #[.int .i64 1, .int .u64 (r : Int), .slice none 0 0]) (by first | rfl | simp [updF, *]) hb2 HJ.out rfl
    · -- 7: Op.buildSlice 156 1 #[(0, t58)]
      intro σ W HJ hdep
      simp [Region.binds] at hdep
      have HJ := hid HJ
      have hbn : Below W.heap.size W (W.alloc (.cells #[.int .i64 1, .int .u64 (r : Int), .slice none 0 0] 107)) := (Below.refl _ _).alloc (Nat.le_refl _) _
      have HBN := hid hbn
      clear hbn
      refine wpOp_plain rfl rfl ?_
      go_simp
      refine Left.mk (.slice (some ⟨W.heap.size, 0, none⟩) 1 1) (by first | rfl | simp [updF, *]) HBN.out HJ.out ?_
      exact pieces_new W 107 [(⟨1, r, []⟩, .slice none 0 0)] (by
        intro q hq
        simp at hq
        rcases hq with rfl
        · exact .inl ⟨rfl, rfl⟩)
    · -- 8: Op.call { value (Operand.func 65), args := #[t59], argTypes 
      intro σ W HJ hdep
      simp [Region.binds] at hdep
      have HJ := hid HJ
      have HC := hid (refPieces_any _ x (σ 7) W.heap.size W (by first | exact hdep | exact hdep.1) (Nat.le_refl _) (by simp) hpf.out hx.out)
      clear hdep
      refine wpOp_plain rfl rfl ?_
      go_simp
      refine HC.out.mono ?_
      rintro e w2 ⟨v, rfl, hbv, hb2⟩
      exact Left.mk v (by first | rfl | simp [updF, *]) hb2 HJ.out hbv
    · -- 9: Op.build 116 #[(0, t55), (1, t60)]
      intro σ W HJ hdep
      simp [Region.binds] at hdep
      have HJ := hid HJ
      have o3 : Bytes W W.heap.size (σ 3) (keyL kwNext [k]) := hdep.1
      have o5 : Bytes W W.heap.size (σ 8) (x) := hdep.2
      have O3 := hid o3
      have O5 := hid o5
      obtain ⟨oa, ca, ea, _⟩ := o3.shape
      obtain ⟨ob, cb, eb, _⟩ := o5.shape
      rw [ea] at O3
      rw [eb] at O5
      generalize hna : (keyL kwNext [k]).length = na at *
      generalize hnb : (x).length = nb at *
      clear hdep o3 o5 hna hnb
      refine wpOp_plain rfl rfl ?_
      go_simp
      exact Left.mk0 (.agg #[.slice oa na ca, .slice ob nb cb]) (by first | rfl | simp [updF, *]) HJ.out ⟨_, _, rfl, O3.out, O5.out⟩
  · intro σ W hj hg
    have HJ := hid hj
    clear hj
    simp only [List.drop_succ_cons, List.drop_zero]
    have e0 : σ 0 = sv := hg 0 (by decide)
    obtain ⟨kv, vv, e6, o3, o5⟩ : ∃ kv vv, σ 9 = .agg #[kv, vv] ∧ Bytes W W.heap.size kv (keyL kwNext [k]) ∧ Bytes W W.heap.size vv (x) := hg 9 (by decide)
    have HP := hid (set8_any l sv kv vv (keyL kwNext [k]) (x) W (hA.out.below HJ.out) o3 o5 hlen hfit)
    have HJ2 := HJ
    clear hg o3 o5
    rw [e0, e6]
    clear e0 e6
    go_wp2_with fail
    refine HP.out.mono ?_
    rintro e w2 ⟨v, rfl, hA2, hb2⟩
    have HA2 := hid hA2
    have HB2 := hid (HJ2.out.trans (hb2.mono HJ2.out.size))
    clear hA2 hb2
    go_wp2
    exact hQ.out σ kv vv v w2 HA2.out HB2.out
set_option maxRecDepth 100000 in
set_option maxHeartbeats 4000000 in
theorem bkMarkRegion {y0 y1 y2 y3 y4 y6 y7 y8 y9 y11 y12 y14 y15 y16 y17 y18 y19 y20 y21 y22 y23 y24 y25 y26 y27 y28 y29 y30 y31 y32 y33 y34 y35 y36 y37 y38 y39 y40 y41 y42 y43 y44 y45 y46 y47 y48 y49 y50 y51 y52 y53 y54 y55 y56 y57 y58 y59 y60 y61 y62 y63 y64 y65 y66 y67 y68 y69 y70 y71 y72 y73 y74 y75 y76 y77 y78 y79 y80 y81 y82 y83 y95 y96 y97 z84 z85 z86 z87 z88 z89 z90 z91 z92 z93 z94 : Value} {gm : Nat} (l : List Pr) (sv : Value) (kind : ByteArray) (m : Mk) (od : Option Addr) (cd : Nat) {w : World} (hA : Hid (Acc w sv l)) (hlen : l.length ≤ 1000) (hrm : Hid (Row w gm 79 [.int .i64 m.chan, .int .i64 m.seq, .slice od m.dig.length cd])) (hm : Hid (wrongMk m = 0)) (hdg : Hid (Bytes w w.heap.size (.slice od m.dig.length cd) m.dig)) (hkl : kind.size ≤ 100) (hfit : (keyL (lets kind) [m.chan.toNat, m.seq.toNat]).length ≤ 140737488351232 ∧ m.dig.length ≤ 140737488351232) (Q : Exit → Act → World → Prop)
    (hQ : Hid (∀ (σ : Nat → Value) (kv vv v : Value) (w' : World), Acc w' v (setP ⟨keyL (lets kind) [m.chan.toNat, m.seq.toNat], m.dig⟩ l) → Below w.heap.size w w' → Q .normal ⟨#[y0, y1, y2, y3, y4, v, y6, y7, y8, y9, .string kind, y11, y12, .pointer (some ⟨gm, 0, none⟩), y14, y15, y16, y17, y18, y19, y20, y21, y22, y23, y24, y25, y26, y27, y28, y29, y30, y31, y32, y33, y34, y35, y36, y37, y38, y39, y40, y41, y42, y43, y44, y45, y46, y47, y48, y49, y50, y51, y52, y53, y54, y55, y56, y57, y58, y59, y60, y61, y62, y63, y64, y65, y66, y67, y68, y69, y70, y71, y72, y73, y74, y75, y76, y77, y78, y79, y80, y81, y82, y83, sv, σ 1, σ 2, σ 3, σ 4, σ 5, σ 6, σ 7, σ 8, σ 9, .agg #[kv, vv], v, y96, y97], []⟩ w')) :
    Code.wp Tryz.prog (.region 22 ((Tryz.f10.body.bind (regOf 22)).getD #[]) true) Q ⟨#[y0, y1, y2, y3, y4, sv, y6, y7, y8, y9, .string kind, y11, y12, .pointer (some ⟨gm, 0, none⟩), y14, y15, y16, y17, y18, y19, y20, y21, y22, y23, y24, y25, y26, y27, y28, y29, y30, y31, y32, y33, y34, y35, y36, y37, y38, y39, y40, y41, y42, y43, y44, y45, y46, y47, y48, y49, y50, y51, y52, y53, y54, y55, y56, y57, y58, y59, y60, y61, y62, y63, y64, y65, y66, y67, y68, y69, y70, y71, y72, y73, y74, y75, y76, y77, y78, y79, y80, y81, y82, y83, z84, z85, z86, z87, z88, z89, z90, z91, z92, z93, z94, y95, y96, y97], []⟩ w := by
  conv => arg 2; arg 2; whnf
  conv => arg 4; dsimp only
  refine region_grows_tail 11 (by kernel_rfl) (fun σ => #[y0, y1, y2, y3, y4, sv, y6, y7, y8, y9, .string kind, y11, y12, .pointer (some ⟨gm, 0, none⟩), y14, y15, y16, y17, y18, y19, y20, y21, y22, y23, y24, y25, y26, y27, y28, y29, y30, y31, y32, y33, y34, y35, y36, y37, y38, y39, y40, y41, y42, y43, y44, y45, y46, y47, y48, y49, y50, y51, y52, y53, y54, y55, y56, y57, y58, y59, y60, y61, y62, y63, y64, y65, y66, y67, y68, y69, y70, y71, y72, y73, y74, y75, y76, y77, y78, y79, y80, y81, y82, y83, σ 0, σ 1, σ 2, σ 3, σ 4, σ 5, σ 6, σ 7, σ 8, σ 9, σ 10, y95, y96, y97]) (fun i => ([z84, z85, z86, z87, z88, z89, z90, z91, z92, z93, z94] : List Value).getD i undef) rfl (fun i X W => match i with
    | 0 => X = sv
    | 1 => X = .string kind
    | 2 => X = .pointer (some ⟨gm, 0, none⟩)
    | 3 => X = .int .i64 m.chan
    | 4 => X = .pointer (some ⟨gm, 1, none⟩)
    | 5 => X = .int .i64 m.seq
    | 6 => ∃ q, X = .slice (some ⟨q, 0, none⟩) 2 2 ∧ Row W q 3 [.int .i64 m.chan, .int .i64 m.seq]
    | 7 => Bytes W W.heap.size X (keyL (lets kind) [m.chan.toNat, m.seq.toNat])
    | 8 => X = .pointer (some ⟨gm, 2, none⟩)
    | 9 => X = .slice od m.dig.length cd
    | 10 => ∃ kv vv, X = .agg #[kv, vv] ∧ Bytes W W.heap.size kv (keyL (lets kind) [m.chan.toNat, m.seq.toNat]) ∧ Bytes W W.heap.size vv (m.dig)
    | _ => True) ?_ (by kernel_rfl) ?_ ?_
  · intro i X W W' HB H
    match i, H with
    | 0, H => exact H
    | 1, H => exact H
    | 2, H => exact H
    | 3, H => exact H
    | 4, H => exact H
    | 5, H => exact H
    | 6, H => exact (by obtain ⟨q, e, hr⟩ := H; exact ⟨q, e, hr.below HB hr.lt⟩)
    | 7, H => exact (H.below HB).mono HB.size
    | 8, H => exact H
    | 9, H => exact H
    | 10, H => exact (by obtain ⟨kv, vv, e, h1, h2⟩ := H; exact ⟨kv, vv, e, (h1.below HB).mono HB.size, (h2.below HB).mono HB.size⟩)
    | _ + 11, _ => exact trivial
  · refine ⟨?_, ?_, ?_, ?_, ?_, ?_, ?_, ?_, ?_, ?_, ?_, trivial⟩
    · -- 0: Op.move t5
      intro σ W HJ hdep
      simp [Region.binds] at hdep
      have HJ := hid HJ
      refine wpOp_plain rfl rfl ?_
      go_simp
      exact Left.mk0 (sv) (by first | rfl | simp [updF, *]) HJ.out rfl
    · -- 1: Op.move t10
      intro σ W HJ hdep
      simp [Region.binds] at hdep
      have HJ := hid HJ
      refine wpOp_plain rfl rfl ?_
      go_simp
      exact Left.mk0 (.string kind) (by first | rfl | simp [updF, *]) HJ.out rfl
    · -- 2: Op.fieldAddr 90 t13 0
      intro σ W HJ hdep
      simp [Region.binds] at hdep
      have HJ := hid HJ
      refine wpOp_plain rfl rfl ?_
      go_simp
      exact Left.mk0 (.pointer (some ⟨gm, 0, none⟩)) (by first | rfl | simp [updF, *]) HJ.out rfl
    · -- 3: Op.load 3 t86
      intro σ W HJ hdep
      simp [Region.binds] at hdep
      have HJ := hid HJ
      have kc := (hrm.out.below HJ.out hrm.out.lt).cell 0
      simp at kc
      refine wpOp_plain rfl rfl ?_
      go_simp
      exact Left.mk0 (.int .i64 m.chan) (by first | rfl | simp [updF, *]) HJ.out rfl
    · -- 4: Op.fieldAddr 90 t13 1
      intro σ W HJ hdep
      simp [Region.binds] at hdep
      have HJ := hid HJ
      refine wpOp_plain rfl rfl ?_
      go_simp
      exact Left.mk0 (.pointer (some ⟨gm, 1, none⟩)) (by first | rfl | simp [updF, *]) HJ.out rfl
    · -- 5: Op.load 3 t88
      intro σ W HJ hdep
      simp [Region.binds] at hdep
      have HJ := hid HJ
      have kc := (hrm.out.below HJ.out hrm.out.lt).cell 1
      simp at kc
      refine wpOp_plain rfl rfl ?_
      go_simp
      exact Left.mk0 (.int .i64 m.seq) (by first | rfl | simp [updF, *]) HJ.out rfl
    · -- 6: Op.buildSlice 147 2 #[(0, t87), (1, t89)]
      intro σ W HJ hdep
      simp [Region.binds] at hdep
      have HJ := hid HJ
      obtain ⟨e1, e2⟩ := hdep
      refine wpOp_plain rfl rfl ?_
      go_simp
      exact Left.mk (.slice (some ⟨W.heap.size, 0, none⟩) 2 2) (by first | rfl | simp [updF, *]) ((Below.refl _ _).alloc (Nat.le_refl _) _) HJ.out ⟨W.heap.size, rfl, Row.new _ _ _⟩
    · -- 7: Op.call { value (Operand.func 62), args := #[t85, t90], argT
      intro σ W HJ hdep
      simp [Region.binds] at hdep
      have HJ := hid HJ
      obtain ⟨q, eq, hrow⟩ : ∃ q, σ 6 = .slice (some ⟨q, 0, none⟩) 2 2 ∧ Row W q 3 [.int .i64 m.chan, .int .i64 m.seq] := by first | exact hdep | exact hdep.1 | exact hdep.2 | exact hdep.2.1 | exact hdep.2.2
      have e1 : σ 1 = .string kind := by first | exact hdep.1 | exact hdep.2.1 | exact hdep.2
      have HC := hid (refKey_any8 kind [m.chan, m.seq] q 2 W hkl hrow rfl (by decide) (fun n hn => by have := wrongMk_ok hm.out; simp at hn; omega))
      clear hdep hrow
      refine wpOp_plain rfl rfl ?_
      go_simp
      refine HC.out.mono ?_
      rintro e w2 ⟨v, rfl, hown, hb2⟩
      exact Left.mk v (by first | rfl | simp [updF, *]) hb2 HJ.out hown
    · -- 8: Op.fieldAddr 90 t13 2
      intro σ W HJ hdep
      simp [Region.binds] at hdep
      have HJ := hid HJ
      refine wpOp_plain rfl rfl ?_
      go_simp
      exact Left.mk0 (.pointer (some ⟨gm, 2, none⟩)) (by first | rfl | simp [updF, *]) HJ.out rfl
    · -- 9: Op.load 25 t92
      intro σ W HJ hdep
      simp [Region.binds] at hdep
      have HJ := hid HJ
      have kc := (hrm.out.below HJ.out hrm.out.lt).cell 2
      simp at kc
      refine wpOp_plain rfl rfl ?_
      go_simp
      exact Left.mk0 (.slice od m.dig.length cd) (by first | rfl | simp [updF, *]) HJ.out rfl
    · -- 10: Op.build 116 #[(0, t91), (1, t93)]
      intro σ W HJ hdep
      simp [Region.binds] at hdep
      have HJ := hid HJ
      have o3 : Bytes W W.heap.size (σ 7) (keyL (lets kind) [m.chan.toNat, m.seq.toNat]) := hdep.1
      have o5 : Bytes W W.heap.size (σ 9) m.dig := by rw [show σ 9 = .slice od m.dig.length cd from hdep.2]; exact (hdg.out.below HJ.out).mono HJ.out.size
      have O3 := hid o3
      have O5 := hid o5
      obtain ⟨oa, ca, ea, _⟩ := o3.shape
      obtain ⟨ob, cb, eb, _⟩ := o5.shape
      rw [ea] at O3
      rw [eb] at O5
      generalize hna : (keyL (lets kind) [m.chan.toNat, m.seq.toNat]).length = na at *
      generalize hnb : (m.dig).length = nb at *
      clear hdep o3 o5 hna hnb
      refine wpOp_plain rfl rfl ?_
      go_simp
      exact Left.mk0 (.agg #[.slice oa na ca, .slice ob nb cb]) (by first | rfl | simp [updF, *]) HJ.out ⟨_, _, rfl, O3.out, O5.out⟩
  · intro σ W hj hg
    have HJ := hid hj
    clear hj
    simp only [List.drop_succ_cons, List.drop_zero]
    have e0 : σ 0 = sv := hg 0 (by decide)
    obtain ⟨kv, vv, e6, o3, o5⟩ : ∃ kv vv, σ 10 = .agg #[kv, vv] ∧ Bytes W W.heap.size kv (keyL (lets kind) [m.chan.toNat, m.seq.toNat]) ∧ Bytes W W.heap.size vv (m.dig) := hg 10 (by decide)
    have HP := hid (set8_any l sv kv vv (keyL (lets kind) [m.chan.toNat, m.seq.toNat]) (m.dig) W (hA.out.below HJ.out) o3 o5 hlen hfit)
    have HJ2 := HJ
    clear hg o3 o5
    rw [e0, e6]
    clear e0 e6
    go_wp2_with fail
    refine HP.out.mono ?_
    rintro e w2 ⟨v, rfl, hA2, hb2⟩
    have HA2 := hid hA2
    have HB2 := hid (HJ2.out.trans (hb2.mono HJ2.out.size))
    clear hA2 hb2
    go_wp2
    exact hQ.out σ kv vv v w2 HA2.out HB2.out
end Go.Proofs.YtooemgkjkngpcaaGreatDoor
