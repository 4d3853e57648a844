/-
  A packet is sent: packet.Send.
-/
import Derived.Test.YtclhcjiblfokaaaGreatDoorpnPkDig
import Derived.Test.YtclhcjiblfokaaaGreatDoorpnPkWith
import Derived.Test.YtclhcjiblfokaaaGreatDoorpnRegW
import Derived.Test.YtclhcjiblfokaaaGreatDoorpnPkOut
import Derived.Test.YtclhcjiblfokaaaGreatDoorpnStCopyM
import Derived.Test.YtclhcjiblfokaaaGreatDoorpnChFol
import Derived.Test.YtclhcjiblfokaaaGreatDoorpnCoOpened
namespace Go.Proofs.YtclhcjiblfokaaaGreatDoor
open Go.RowKit

set_option maxRecDepth 100000 in
set_option maxHeartbeats 4000000 in
theorem sendR10 {y0 y2 y3 y5 y6 y7 y8 y9 y10 y11 y12 y14 y15 y16 y17 y18 y19 y20 y21 y22 y23 y24 y25 y26 y27 y28 y29 y30 y31 y32 y33 y34 y35 y36 y37 y38 y39 y40 y41 y42 y43 y44 y45 y46 y47 y48 y49 y50 y61 y62 y63 y64 y65 y66 y67 y68 y69 y70 y71 z51 z52 z53 z54 z55 z56 z57 z58 z59 z60 : Value} {x0 x1 x2 x3 x4 x5 x7 x8 x9 p0 p1 p3 p4 : Value} {gs gp n4 c4 : Nat} {o4 : Option Addr} {ch q : Int} {dig : List (BitVec 8)} {w : World} (hgs : Hid (Row w gs 28 [x0, x1, x2, x3, x4, x5, .slice o4 n4 c4, x7, x8, x9])) (hgp : Hid (Row w gp 31 [p0, p1, .int .i64 q, p3, p4]))  (hdig : ∀ W, Below w.heap.size w W → Calls Tryz.prog 9 #[.agg #[p0, p1, .int .i64 q, p3, p4]] W fun e w' => ∃ od cd, e = .returned (.slice od 32 cd) ∧ OwnB w' W.heap.size (.slice od 32 cd) dig ∧ Below W.heap.size W w') (POST : Value → World → Prop) (hpost : ∀ v W, POST v W → Row W gs 28 [x0, x1, x2, x3, x4, x5, .slice o4 n4 c4, x7, x8, x9] ∧ ∃ o n c, v = .slice o n c)
    (hwith : ∀ W od cd, Below w.heap.size w W → OwnB W w.heap.size (.slice od 32 cd) dig → Calls Tryz.prog 36 #[.slice o4 n4 c4, .agg #[.int .i64 ch, .int .i64 q, .slice od 32 cd]] W fun e w' => ∃ v, e = .returned v ∧ POST v w') (Q : Exit → Act → World → Prop)
    (hQ : Hid (∀ (σ : Nat → Value) (W : World), POST (σ 8) W → Q .normal ⟨#[y0, .int .i64 ch, y2, y3, .pointer (some ⟨gs, 0, none⟩), y5, y6, y7, y8, y9, y10, y11, y12, .pointer (some ⟨gp, 0, none⟩), y14, y15, y16, y17, y18, y19, y20, y21, y22, y23, y24, y25, y26, y27, y28, y29, y30, y31, y32, y33, y34, y35, y36, y37, y38, y39, y40, y41, y42, y43, y44, y45, y46, y47, y48, y49, y50, σ 0, σ 1, σ 2, σ 3, σ 4, σ 5, σ 6, σ 7, σ 8, σ 9, y61, y62, y63, y64, y65, y66, y67, y68, y69, y70, y71], []⟩ (W.setCell ⟨gs, 6, none⟩ (σ 8)))) :
    Code.wp Tryz.prog (.region 10 ((Tryz.f11.body.bind (regOf 10)).getD #[]) true) Q ⟨#[y0, .int .i64 ch, y2, y3, .pointer (some ⟨gs, 0, none⟩), y5, y6, y7, y8, y9, y10, y11, y12, .pointer (some ⟨gp, 0, none⟩), y14, y15, y16, y17, y18, y19, y20, y21, y22, y23, y24, y25, y26, y27, y28, y29, y30, y31, y32, y33, y34, y35, y36, y37, y38, y39, y40, y41, y42, y43, y44, y45, y46, y47, y48, y49, y50, z51, z52, z53, z54, z55, z56, z57, z58, z59, z60, y61, y62, y63, y64, y65, y66, y67, y68, y69, y70, y71], []⟩ w := by
  conv => arg 2; arg 2; whnf
  conv => arg 4; dsimp only
  refine region_write 8 (by kernel_rfl) (fun σ => #[y0, .int .i64 ch, y2, y3, .pointer (some ⟨gs, 0, none⟩), y5, y6, y7, y8, y9, y10, y11, y12, .pointer (some ⟨gp, 0, none⟩), y14, y15, y16, y17, y18, y19, y20, y21, y22, y23, y24, y25, y26, y27, y28, y29, y30, y31, y32, y33, y34, y35, y36, y37, y38, y39, y40, y41, y42, y43, y44, y45, y46, y47, y48, y49, y50, σ 0, σ 1, σ 2, σ 3, σ 4, σ 5, σ 6, σ 7, σ 8, σ 9, y61, y62, y63, y64, y65, y66, y67, y68, y69, y70, y71]) (fun i => ([z51, z52, z53, z54, z55, z56, z57, z58, z59, z60, undef] : List Value).getD i undef) rfl (.pointer (some ⟨gs, 6, none⟩)) (fun i X W => match i with
    | 0 => X = .pointer (some ⟨gs, 6, none⟩)
    | 1 => X = .slice o4 n4 c4
    | 2 => X = .int .i64 ch
    | 3 => X = .pointer (some ⟨gp, 2, none⟩)
    | 4 => X = .int .i64 q
    | 5 => X = .agg #[p0, p1, .int .i64 q, p3, p4]
    | 6 => ∃ od cd, X = .slice od 32 cd ∧ OwnB W w.heap.size (.slice od 32 cd) dig
    | 7 => ∃ od cd, X = .agg #[.int .i64 ch, .int .i64 q, .slice od 32 cd] ∧ OwnB W w.heap.size (.slice od 32 cd) dig
    | _ => True) ?_ POST (fun v W => ∃ W0, POST v W0 ∧ W = W0.setCell ⟨gs, 6, none⟩ v) (by kernel_rfl) ?_ ?_ ?_ ?_ ?_
  · intro i X W W' HB H
    iterate 8 (obtain _ | i := i; first | exact H | exact (by obtain ⟨od, cd, h1, h2⟩ := H; exact ⟨od, cd, h1, h2.below HB⟩))
    exact H
  · refine ⟨?_, ?_, ?_, ?_, ?_, ?_, ?_, ?_, trivial⟩
    all_goals (intro σ W HJ hdep; simp [Region.binds] at hdep; have HJ := hid HJ; obtain ⟨gsk0, gsk1, gsk2, gsk3, gsk4, gsk5, gsk6, gsk7, gsk8, gsk9⟩ := (hgs.out.below HJ.out hgs.out.lt).k10; obtain ⟨gpk0, gpk1, gpk2, gpk3, gpk4⟩ := (hgp.out.below HJ.out hgp.out.lt).k5)
    · refine wpOp_plain rfl rfl ?_; go_simp; exact Left.mk0 _ (by first | rfl | simp [updF, *]) HJ.out rfl
    · refine wpOp_plain rfl rfl ?_; go_simp; exact Left.mk0 _ (by first | rfl | simp [updF, *]) HJ.out rfl
    · refine wpOp_plain rfl rfl ?_; go_simp; exact Left.mk0 _ (by first | rfl | simp [updF, *]) HJ.out rfl
    · refine wpOp_plain rfl rfl ?_; go_simp; exact Left.mk0 _ (by first | rfl | simp [updF, *]) HJ.out rfl
    · refine wpOp_plain rfl rfl ?_; go_simp; exact Left.mk0 _ (by first | rfl | simp [updF, *]) HJ.out rfl
    · refine wpOp_plain rfl rfl ?_; go_simp; exact Left.mk0 _ (by first | rfl | simp [updF, *]) HJ.out rfl
    · have HC := hid (hdig W HJ.out)
      refine wpOp_plain rfl rfl ?_
      go_simp
      refine HC.out.mono ?_
      rintro e w2 ⟨od, cd, rfl, ho, hb⟩
      exact Left.mk _ (by first | rfl | simp [updF, *]) hb HJ.out ⟨od, cd, rfl, ownsB_mono ho HJ.out.size⟩
    · obtain ⟨d3, d5, od, cd, d6, ho⟩ := hdep
      have HO := hid ho
      clear ho
      refine wpOp_plain rfl rfl ?_
      go_simp
      exact Left.mk0 (.agg #[.int .i64 ch, .int .i64 q, .slice od 32 cd]) (by first | rfl | simp [updF, *]) HJ.out ⟨od, cd, rfl, HO.out⟩
  · intro σ W HJ hg
    have eL : σ 1 = .slice o4 n4 c4 := hg 1 (by decide)
    obtain ⟨od, cd, eB, ho⟩ : ∃ od cd, σ 7 = .agg #[.int .i64 ch, .int .i64 q, .slice od 32 cd] ∧ OwnB W w.heap.size (.slice od 32 cd) dig := hg 7 (by decide)
    have HC := hid (hwith W od cd HJ ho)
    clear hg HJ ho
    refine wpOp_plain rfl rfl ?_
    go_simp
    refine HC.out.mono ?_
    rintro e w2 ⟨v, rfl, hp⟩
    exact ⟨v, by first | rfl | simp [updF, *], hp⟩
  · intro σ W
    refine wpOp_plain rfl rfl ?_
    go_simp
    exact ⟨by first | rfl | simp [updF, *], rfl⟩
  · intro σ W eu hp
    obtain ⟨hr, o, n, c, ev⟩ := hpost _ _ hp
    have kc := hr.cell 6
    have kz := hr.frozen 6
    simp at kc
    have HP := hid hp
    clear hp hr
    refine wpOp_plain rfl rfl ?_
    go_simp
    rw [ev] at HP
    exact ⟨undef, by first | rfl | simp [updF, *], W, HP.out, by first | rfl | rw [ev]⟩
  · rintro σ W ⟨W0, hp, rfl⟩ _
    exact hQ.out σ W0 hp
set_option maxRecDepth 100000 in
set_option maxHeartbeats 4000000 in
theorem sendR12 {y0 y1 y2 y3 y5 y6 y7 y11 y12 y14 y15 y16 y17 y18 y19 y20 y21 y22 y23 y24 y25 y26 y27 y28 y29 y30 y31 y32 y33 y34 y35 y36 y37 y38 y39 y40 y41 y42 y43 y44 y45 y46 y47 y48 y49 y50 y51 y52 y53 y54 y55 y56 y57 y58 y59 y60 y61 y62 y63 y64 y65 y66 y67 y68 y69 z10 z70 z71 : Value} {x0 x1 x2 x3 x4 x5 x6 x7 x8 x9 p0 p1 p2 p3 p4 : Value} {gs gp ga gb : Nat} {o1 o2 : List Value} {w : World} (hs : Hid (Row w gs 28 [x0, x1, x2, x3, x4, x5, x6, x7, x8, x9])) (hp : Hid (Row w gp 31 [p0, p1, p2, p3, p4])) (ha : Hid (Row w ga 28 o1)) (hl1 : o1.length = 10) (hb : Hid (Row w gb 31 o2)) (hl2 : o2.length = 5)
    (hn1 : (#[x0, x1, x2, x3, x4, x5, x6, x7, x8, x9] : Array Value).all (·.oneCell') = true) (hn2 : (#[p0, p1, p2, p3, p4] : Array Value).all (·.oneCell') = true) (q1 : gs ≠ ga ∧ gs ≠ gb ∧ gp ≠ ga ∧ gp ≠ gb ∧ ga ≠ gb) (Q : Exit → Act → World → Prop)
    (hQ : Hid (∀ (σ : Nat → Value) (W : World), Two ga gb w W → Row W ga 28 [x0, x1, x2, x3, x4, x5, x6, x7, x8, x9] → Row W gb 31 [p0, p1, p2, p3, p4] → σ 4 = .int .i64 0 → Q .normal ⟨#[y0, y1, y2, y3, .pointer (some ⟨gs, 0, none⟩), y5, y6, y7, .pointer (some ⟨ga, 0, none⟩), .pointer (some ⟨gb, 0, none⟩), σ 4, y11, y12, .pointer (some ⟨gp, 0, none⟩), y14, y15, y16, y17, y18, y19, y20, y21, y22, y23, y24, y25, y26, y27, y28, y29, y30, y31, y32, y33, y34, y35, y36, y37, y38, y39, y40, y41, y42, y43, y44, y45, y46, y47, y48, y49, y50, y51, y52, y53, y54, y55, y56, y57, y58, y59, y60, y61, y62, y63, y64, y65, y66, y67, y68, y69, σ 0, σ 1], []⟩ W)) :
    Code.wp Tryz.prog (.region 12 ((Tryz.f11.body.bind (regOf 12)).getD #[]) true) Q ⟨#[y0, y1, y2, y3, .pointer (some ⟨gs, 0, none⟩), y5, y6, y7, .pointer (some ⟨ga, 0, none⟩), .pointer (some ⟨gb, 0, none⟩), z10, y11, y12, .pointer (some ⟨gp, 0, none⟩), y14, y15, y16, y17, y18, y19, y20, y21, y22, y23, y24, y25, y26, y27, y28, y29, y30, y31, y32, y33, y34, y35, y36, y37, y38, y39, y40, y41, y42, y43, y44, y45, y46, y47, y48, y49, y50, y51, y52, y53, y54, y55, y56, y57, y58, y59, y60, y61, y62, y63, y64, y65, y66, y67, y68, y69, z70, z71], []⟩ w := by
  conv => arg 2; arg 2; whnf
  conv => arg 4; dsimp only
  refine region_facts (by kernel_rfl) (fun σ => #[y0, y1, y2, y3, .pointer (some ⟨gs, 0, none⟩), y5, y6, y7, .pointer (some ⟨ga, 0, none⟩), .pointer (some ⟨gb, 0, none⟩), σ 4, y11, y12, .pointer (some ⟨gp, 0, none⟩), y14, y15, y16, y17, y18, y19, y20, y21, y22, y23, y24, y25, y26, y27, y28, y29, y30, y31, y32, y33, y34, y35, y36, y37, y38, y39, y40, y41, y42, y43, y44, y45, y46, y47, y48, y49, y50, y51, y52, y53, y54, y55, y56, y57, y58, y59, y60, y61, y62, y63, y64, y65, y66, y67, y68, y69, σ 0, σ 1]) (fun i => ([z70, z71, undef, undef, z10] : List Value).getD i undef) rfl (fun i X W => match i with
    | 0 => X = .agg #[x0, x1, x2, x3, x4, x5, x6, x7, x8, x9]
    | 1 => X = .agg #[p0, p1, p2, p3, p4]
    | 2 => Row W ga 28 [x0, x1, x2, x3, x4, x5, x6, x7, x8, x9]
    | 3 => Row W gb 31 [p0, p1, p2, p3, p4]
    | 4 => X = .int .i64 0
    | _ => True) (fun A B => (Row A ga 28 [x0, x1, x2, x3, x4, x5, x6, x7, x8, x9] → Row B ga 28 [x0, x1, x2, x3, x4, x5, x6, x7, x8, x9]) ∧ (Row A gb 31 [p0, p1, p2, p3, p4] → Row B gb 31 [p0, p1, p2, p3, p4])) (fun W => Two ga gb w W ∧ (∃ o : List Value, o.length = 10 ∧ Row W ga 28 o) ∧ ∃ o : List Value, o.length = 5 ∧ Row W gb 31 o) ⟨Two.drew _ _ _, ⟨o1, hl1, ha.out⟩, o2, hl2, hb.out⟩ ?_ (by kernel_rfl) ?_ ?_
  · intro i X A B hR H
    match i, H with
    | 0, H => exact H
    | 1, H => exact H
    | 2, H => exact hR.1 H
    | 3, H => exact hR.2 H
    | 4, H => exact H
    | _ + 5, _ => exact trivial
  · refine ⟨?_, ?_, ?_, ?_, ?_, trivial⟩
    all_goals (intro σ W HJ hdep; simp [Region.binds] at hdep; have HJ := hid HJ)
    · obtain ⟨k0, k1, k2, k3, k4, k5, k6, k7, k8, k9⟩ := (show Row W gs 28 [x0, x1, x2, x3, x4, x5, x6, x7, x8, x9] from (HJ.out.1.same _ q1.1 q1.2.1).trans hs.out).k10
      refine wpOp_plain rfl rfl ?_; go_simp; exact ⟨_, (by first | rfl | simp [updF, *]), ⟨id, id⟩, HJ.out, rfl⟩
    · obtain ⟨m0, m1, m2, m3, m4⟩ := (show Row W gp 31 [p0, p1, p2, p3, p4] from (HJ.out.1.same _ q1.2.2.1 q1.2.2.2.1).trans hp.out).k5
      refine wpOp_plain rfl rfl ?_; go_simp; exact ⟨_, (by first | rfl | simp [updF, *]), ⟨id, id⟩, HJ.out, rfl⟩
    · obtain ⟨o, hl, hr⟩ := HJ.out.2.1
      have hd : σ 0 = .agg #[x0, x1, x2, x3, x4, x5, x6, x7, x8, x9] := by first | exact hdep | exact hdep.1
      refine wpOp_plain rfl rfl ?_
      refine wp_store_row _ (.tmp 8) (.tmp 70) rfl ga #[x0, x1, x2, x3, x4, x5, x6, x7, x8, x9] rfl hd 28 o.toArray hr (by kernel_rfl) (by simpa using hl) hn1 ?_
      refine ⟨undef, rfl, ⟨fun _ => Row.setRow hr _, fun h => (setRow_other _ _ _ _ q1.2.2.2.2.symm).trans h⟩, ⟨HJ.out.1.row _ (.inl rfl), ⟨_, by rfl, Row.setRow hr [x0, x1, x2, x3, x4, x5, x6, x7, x8, x9]⟩, ?_⟩, Row.setRow hr _⟩
      obtain ⟨o', hl', hr'⟩ := HJ.out.2.2
      exact ⟨o', hl', (setRow_other _ _ _ _ q1.2.2.2.2.symm).trans hr'⟩
    · obtain ⟨o, hl, hr⟩ := HJ.out.2.2
      have hd : σ 1 = .agg #[p0, p1, p2, p3, p4] := by first | exact hdep | exact hdep.1 | exact hdep.2.1
      refine wpOp_plain rfl rfl ?_
      refine wp_store_row _ (.tmp 9) (.tmp 71) rfl gb #[p0, p1, p2, p3, p4] rfl hd 31 o.toArray hr (by kernel_rfl) (by simpa using hl) hn2 ?_
      refine ⟨undef, rfl, ⟨fun h => (setRow_other _ _ _ _ q1.2.2.2.2).trans h, fun _ => Row.setRow hr _⟩, ⟨HJ.out.1.row _ (.inr rfl), ?_, ⟨_, by rfl, Row.setRow hr [p0, p1, p2, p3, p4]⟩⟩, Row.setRow hr _⟩
      obtain ⟨o', hl', hr'⟩ := HJ.out.2.1
      exact ⟨o', hl', (setRow_other _ _ _ _ q1.2.2.2.2).trans hr'⟩
    · refine wpOp_plain rfl rfl ?_; go_simp; exact ⟨_, (by first | rfl | simp [updF, *]), ⟨id, id⟩, HJ.out, rfl⟩
  · intro σ W HJ hg
    exact hQ.out σ W HJ.1 (hg 2 (by decide)) (hg 3 (by decide)) (hg 4 (by decide))
end Go.Proofs.YtclhcjiblfokaaaGreatDoor
namespace Go.Proofs.YtclhcjiblfokaaaGreatDoor
open Go.RowKit

abbrev Fr.list {w w1 : World} {l : List Bx} (_ : Fr w l w1) : List Bx := l
theorem Fr.grown {w w1 w2 : World} {l : List Bx} {o : Option Nat} (F : Fr w l w1) (hg : w1.grownBy w2 o) (ho : ∀ b, o = some b → w.heap.size ≤ b ∧ ∀ g ∈ l.map (·.1), g ≠ b) : Fr w l w2 :=
  ⟨F.b.trans ⟨hg.os, hg.tape, hg.output, hg.size, fun k hk => hg.block k (Nat.lt_of_lt_of_le hk F.b.size) fun e => by have := (ho k e.symm).1; omega⟩, fun r hr => (hg.block r.1 (F.rows r hr).lt fun e => (ho r.1 e.symm).2 r.1 (List.mem_map.2 ⟨r, hr, rfl⟩) rfl).trans (F.rows r hr), F.own, F.apart⟩
theorem ret_cct {fn : Func} {R : Ending → World → Prop} {a : Act} {w : World} {s g s' g' u : Nat} {t t' : TypeId} {cs cs' : List Value} (hf : fn.results = #[.cell s t, .cell s' t', .tmp u]) (hs : a.tmps.getD s undef = .pointer (some ⟨g, 0, none⟩)) (hs2 : a.tmps.getD s' undef = .pointer (some ⟨g', 0, none⟩)) (hr : Row w g t cs) (hr2 : Row w g' t' cs') (ht : Struct t cs.length) (ht2 : Struct t' cs'.length) (hd : a.defers = []) (hR : R (.returned (.tuple #[.agg cs.toArray, .agg cs'.toArray, a.tmps.getD u undef])) w) : bodyPost Tryz.prog fn R .ret a w := by
  have hs' : a.tmps[s]?.getD undef = .pointer (some ⟨g, 0, none⟩) := by simpa using hs
  have hs'' : a.tmps[s']?.getD undef = .pointer (some ⟨g', 0, none⟩) := by simpa using hs2
  exact bodyPost_ret (by simp [results, hf, hs', hs'', asAddr, load_struct hr ht, load_struct hr2 ht2]) hd hR
theorem EndR.below {w w' : World} {N : Nat} {ev : Value} {s : St} {i z : Int} (h : EndR w N ev s i z) (hb : Below N w w') : EndR w' N ev s i z := ⟨fun hz => (h.1 hz).below hb, h.2⟩
theorem StOwnM.only {Z : Nat → Prop} {base g : Nat} {w w' : World} {s : St} {X : World → Prop} {v1 v2 v3 v4 v5 v6 v7 : Value} (h : StOwnM Z base w s X v1 v2 v3 v4 v5 v6 v7) (O : Only g w w') (hg : ¬ Z g) : StOwnM Z base w' s X v1 v2 v3 v4 v5 v6 v7 :=
  h.on O.below fun b _ hZ => O.same b fun e => hg (e ▸ hZ)
theorem StOwnM.own {Z : Nat → Prop} {base : Nat} {w : World} {s : St} {X : World → Prop} {v1 v2 v3 v4 v5 v6 v7 : Value} (h : StOwnM Z base w s X v1 v2 v3 v4 v5 v6 v7) : ∀ i b, stO v2 v3 v4 v5 v6 v7 i = some b → base ≤ b ∧ b < w.heap.size := by
  obtain ⟨r4, r5, r6, h⟩ := h
  exact stP_own base s X v1 v2 v3 v4 v5 v6 v7 r4 r5 r6 h.now
theorem StOwnM.holds {Z : Nat → Prop} {N base base' : Nat} {w : World} {t : St} {X : World → Prop} {v1 v2 v3 v4 v5 v6 v7 : Value} (h : StOwnM Z base w t X v1 v2 v3 v4 v5 v6 v7) (hZ : ∀ b, Z b → b < N ∨ base' ≤ b) : HoldsS N base' w (.agg #[.string t.name, .int .i64 t.height, .int .i64 t.time, v1, v2, v3, v4, v5, v6, v7]) t :=
  ⟨fun _ hb => hb.2, fun _ hb hk => ⟨v1, v2, v3, v4, v5, v6, v7, rfl, (h.on hb (fun b hlt hr => hk b ⟨hZ b hr, hlt⟩)).mem⟩⟩
/-- what reads as a packet: below N, or from base on -/
def HoldsP (N base : Nat) (w : World) (v : Value) (p : Pk) : Prop := Held (fun b => (b < N ∨ base ≤ b) ∧ b < w.heap.size) w (fun w2 => PkV w2 w2.heap.size v p)
theorem holdsP_none (N base : Nat) (w : World) : HoldsP N base w (.agg #[.int .i64 0, .int .i64 0, .int .i64 0, .slice none 0 0, .int .i64 0]) Pk.none := ⟨fun _ h => h.2, fun w2 _ _ => pkV_none w2 _⟩
theorem digPk_length (p : Pk) : (digPk p).length = 32 := sha_length _
/-- what Send is to answer -/
def SendC (f : FuncId) : Prop := ∀ (s : St) (v dv : Value) (data : List (BitVec 8)) (N : Nat) (w : World) (i tmo : Int), StV w N v s → Bytes w N dv data → N ≤ w.heap.size → s.fits → data.length ≤ 140737488351232 → tableAt w →
  Calls Tryz.prog f #[v, .int .i64 i, dv, .int .i64 tmo] w fun e w' => Below w.heap.size w w' ∧ ∃ v' pv, e = .returned (.tuple #[v', pv, .int .i64 (sendN s i data tmo)]) ∧ HoldsS N w.heap.size w' v' (sendS s i data tmo) ∧ HoldsP N w.heap.size w' pv (sendP s i data tmo)
theorem sendS_no {s : St} {i : Int} {data : List (BitVec 8)} {tmo : Int} (h : sendN s i data tmo ≠ 0) : sendS s i data tmo = St.none ∧ sendP s i data tmo = Pk.none := ⟨if_neg h, if_neg h⟩
/-- a mark more of what was sent, by a mark whose digest was just made -/
theorem sent_more {N : Nat} {w W : World} {base : Nat} {s : St} {v1 v2 v3 v4 v5 v6 v7 : Value} (h : StOwnM (fun b => b < N ∨ base ≤ b) base w s noX v1 v2 v3 v4 v5 v6 v7) (hb : base ≤ w.heap.size) (hs : SortM s.sent) (hl : s.sent.length ≤ 1000) (ch seq : Int) (dig : List (BitVec 8)) (od : Option Addr) (nd cd : Nat) (hW : Below w.heap.size w W) (ho : OwnB W w.heap.size (.slice od nd cd) dig) :
    Calls Tryz.prog 36 #[v4, .agg #[.int .i64 ch, .int .i64 seq, .slice od nd cd]] W fun e w' => ∃ v', e = .returned v' ∧ W.grownBy w' v4.ownBlock ∧ StOwnM (fun b => b < N ∨ base ≤ b) base w' { s with sent := withM s.sent ⟨ch, seq, dig⟩ } (fun w2 => Bytes w2 w2.heap.size (.slice od nd cd) dig) v1 v2 v3 v' v5 v6 v7 := by
  have hown := h.own
  have hX := (h.below hW).add (X := fun w2 => Bytes w2 w2.heap.size (.slice od nd cd) dig) (fun b => w.heap.size ≤ b ∧ b < W.heap.size) ho.held (fun b hF => .inr (by omega)) (fun b hF i e => by have := (hown i b e).2; omega)
  obtain ⟨rs, hrow, hE, hput⟩ := hX.putSent
  refine (with_any s.sent ⟨ch, seq, dig⟩ od nd cd v4 base W rs hrow hE hs hl (Nat.le_trans hb hW.size)).mono ?_
  rintro e w' ⟨hg, v', rs', rfl, hrow', hn', hm'⟩
  exact ⟨v', rfl, hg, hput w' v' rs' _ hg hrow' hn' (fun b e => .inr (RowT.own hrow' b e).1) hm'⟩
set_option maxRecDepth 100000 in
set_option maxHeartbeats 4000000 in
theorem psendC : SendC 11 := by
  intro s v dv data N w i tmo hv hd hN hfit hdl htab
  have HE := hid (show sendN s i data tmo = if cendL s i [3] ≠ 0 then cendL s i [3] else outN s (sendPk s i data tmo) (lastH (folOf s i)) (chAt s i).send from rfl)
  have HEN := hid (fun W gl (hx : Below w.heap.size w W) (hr : Row W gl 3 [.int .i64 3]) => pend_any s v N W i [3] gl 1 (hv.below (hx.mono hN)) (Nat.le_trans hN hx.size) hfit hr rfl (by decide))
  have HOU := hid (fun W ev pv (c : Ch) (f : Cl) (p : Pk) (hx : Below w.heap.size w W) (he : EndV W N ev c f) (hp : PkV W N pv p) (hcl : wrongCl f = 0) => outs_any s c f p v ev pv N W (hv.below (hx.mono hN)) he hp (Nat.le_trans hN hx.size) hcl)
  have HCB := hid (fun W (hx : Below w.heap.size w W) => cloneB_any data dv N W (hd.below (hx.mono hN)) hdl)
  have HCP := hid (fun W (hx : Below w.heap.size w W) (hfw : few s) => copyM s v N W (hv.below (hx.mono hN)) (Nat.le_trans hN hx.size) hfit hfw)
  have HTB := hid (fun W (hx : Below w.heap.size w W) => htab.past hx)
  have HBD := hid (fun W (hx : Below w.heap.size w W) => hd.below (hx.mono hN))
  obtain ⟨o1, c1, o2, c2, o3, c3, o4, c4, o5, c5, o6, c6, o7, c7, rfl, hm⟩ := hv.open
  obtain ⟨odd, cdd, rfl, -⟩ := hd.shape
  clear hv hd hfit htab hm
  go_enter Tryz.func11, Tryz.ntmps11
  go_upto_region 1 with fail
  refine fbox3 ?_
  intro w0 F0 hs0
  go_wp2_with (refine F0.load 0 rfl rfl rfl rfl structState ?_)
  refine boxC ?_
  intro w2 hr2 hb2
  refine (HEN.out w2 _ (F0.go hb2).b hr2).mono ?_
  rintro e w3 ⟨hb3, ev, rfl, her⟩
  have F3 := (F0.go hb2).go hb3
  obtain ⟨y0, y1, y2, y3, y4, y5, y6, y7, y8, y9, y10, hev, hone⟩ := her.cells
  subst hev
  have HER := hid her
  have HON := hid hone
  have HS3 := hid (show w.heap.size + 3 ≤ w3.heap.size by have := hb2.size; have := hb3.size; omega)
  clear her hone hr2 hb2 hb3 F0 hs0 HEN
  go_upto_region 2 with (refine F3.storeNew rfl rfl rfl rfl structEnd rfl HON.out ?_; intro w4 F4 hb4)
  have HER4 := hid (HER.out.below (hb4.mono (Nat.le_trans hN F3.b.size)))
  have HS4 := hid (show w3.heap.size < w4.heap.size from F4.r3.lt)
  clear HER HON hb4 F3
  by_cases hz : cendL s i [3] = 0
  · have HE2 := hid (HE.out.trans (if_neg (by simp [hz])))
    obtain ⟨j, k, m, c, d, f, hij, hj, hca, hck, hd, hdm, hf, hfo, hwc, hwf, -⟩ := cendL_fol hz
    obtain ⟨ka, ma, hev, hfv⟩ := HER4.out.1 hz
    rw [hca, hfo] at hev
    rw [hfo] at hfv
    have HEQ := hid (show sendPk s i data tmo = ⟨i, c.ochan, c.send, data, tmo⟩ by unfold sendPk; rw [hca])
    rw [hca, hfo, HEQ.out] at HE2
    have HWS := hid (cendL_ok hz).1
    simp only [Value.agg.injEq, Array.mk.injEq, List.cons.injEq, and_true] at hev
    obtain ⟨rfl, rfl, rfl, rfl, rfl, rfl, rfl, rfl, rfl, rfl, rfl⟩ := hev
    rw [hz]
    have HFV := hid hfv
    have HJ := hid hj
    have HIJ := hid hij
    have HCA := hid hca
    have HWC := hid (wrongCh_ok hwc)
    have HWF := hid hwf
    clear hz hij hj hca hck hd hdm hf hfo hwc hwf hfv HER4 HE
    have k3 := F4.r3.k11.2.2.2.1
    have k4 := F4.r3.k11.2.2.2.2.1
    go_upto_region 5 with fail
    refine F4.box ?_
    intro w5 F5 hs5 hb5
    have HFV5 := hid (show EndV w5 N _ c f from ⟨ka, ma, rfl, HFV.out.below (hb5.mono (Nat.le_trans hN F4.b.size))⟩)
    clear k3 k4 hs5 hb5 F4 HFV
    go_wp2_with (first | refine F5.load 0 rfl rfl rfl rfl structState ?_ | refine F5.load 3 rfl rfl rfl rfl structEnd ?_ | refine F5.load 4 rfl rfl rfl rfl structPacket ?_)
    refine (HOU.out w5 _ _ c f ⟨i, c.ochan, c.send, data, tmo⟩ F5.b HFV5.out ⟨_, rfl, HBD.out w5 F5.b⟩ HWF.out).mono ?_
    rintro e w6 ⟨rfl, hb6⟩
    have F6 := F5.go hb6
    clear hb6 F5 HFV5 HOU
    by_cases hz2 : outN s ⟨i, c.ochan, c.send, data, tmo⟩ (lastH f) c.send = 0
    · have HZN := hid (HE2.out.trans hz2)
      have hwp : wrongPk ⟨i, c.ochan, c.send, data, tmo⟩ = 0 := by
        unfold outN at hz2
        split at hz2
        · rename_i h1; exact absurd hz2 h1
        · rename_i h1; simpa using h1
      have hsl : c.send < 1000000000000 := by
        unfold outN at hz2
        rw [if_neg (by simp [hwp])] at hz2
        split at hz2
        · cases hz2
        split at hz2
        · cases hz2
        omega
      rw [hz2]
      have HWP := hid hwp
      clear hz2 hwp HE2
      have hz0 := F6.r4.lt
      go_wp2_with fail
      refine (HCB.out w6 F6.b).mono ?_
      rintro e w7 ⟨hb7, dv', rfl, hown⟩
      obtain ⟨od, cd, rfl, -⟩ := hown.shape
      have F7 := F6.go hb7
      have HBY := hid hown.held
      have hsz7 := hb7.size
      clear hown hb7 HCB
      have kp := F7.r4.k5.2.2.2.1
      have zp := F7.r4.frozen 3
      go_upto_region 9 with fail
      refine F7.cell 4 rfl ?_
      intro w8 F8 O8
      have HBY8 := hid (show Held (fun b => w6.heap.size ≤ b ∧ b < w7.heap.size) w8 (fun w2 => Bytes w2 w2.heap.size (.slice od data.length cd) data) from HBY.out.on O8.below fun b hF => O8.same b (by have := hF.1; omega))
      have hsz8 := O8.size
      clear kp zp O8 F7 HBY
      go_wp2_with (refine F8.load 0 rfl rfl rfl rfl structState ?_)
      refine (HCP.out w8 F8.b (wrongS_few HWS.out)).mono ?_
      rintro e w9 ⟨hb9, p1, d1, p2, d2, p3, d3, p4, d4, p5, d5, p6, d6, p7, d7, rfl, hown⟩
      have F9 := F8.go hb9
      have hg0 := F8.r0.lt
      have hg1 := F8.r1.lt
      have hg2 := F8.r2.lt
      have hg3 := F8.r3.lt
      have hg4 := F8.r4.lt
      have hsz9 := hb9.size
      have HO9 := hid hown
      have HBY9 := hid (HBY8.out.below hb9)
      clear hown hb9 HCP HBY8
      go_upto_region 10 with (refine F9.store 0 rfl rfl rfl rfl rfl structState rfl (by simp [Value.oneCell']) ?_; intro w10 F10 O10)
      have HO10 := hid (HO9.out.only O10 (by omega))
      have HBY10 := hid (show Held (fun b => w6.heap.size ≤ b ∧ b < w7.heap.size) w10 _ from HBY9.out.on O10.below fun b hF => O10.same b (by have := hF.1; have := F6.r0.lt; omega))
      have hsz10 := O10.size
      have HF6 := hid F6.lts
      clear O10 F9 HO9 HBY9 F6
      have hgot := wrongS_right HWS.out
      have HSO := hid hgot.sent.2
      have hmany := hgot.many
      clear hgot
      have hlt0 : ∀ g ∈ [w.heap.size, w.heap.size + 1, w.heap.size + 1 + 1, w3.heap.size, w4.heap.size], g < w8.heap.size := F8.lts
      refine sendR10 (hid F10.r0) (hid F10.r4) (dig := digPk ⟨i, c.ochan, c.send, data, tmo⟩)
        (fun W hW => ?dig)
        (fun v W => Fr w F10.list W ∧ StOwnM (fun b => b < N ∨ w8.heap.size ≤ b) w8.heap.size W { s with sent := withM s.sent ⟨i, c.send, digPk ⟨i, c.ochan, c.send, data, tmo⟩⟩ } noX (.slice p1 s.clients.length d1) (.slice p2 s.conns.length d2) (.slice p3 s.chans.length d3) v (.slice p5 s.got.length d5) (.slice p6 s.acks.length d6) (.slice p7 s.purses.length d7) ∧ Held (fun b => w6.heap.size ≤ b ∧ b < w7.heap.size) W (fun w2 => Bytes w2 w2.heap.size (.slice od data.length cd) data) ∧ ∃ o n c, v = .slice o n c)
        ?post (fun W od' cd' hW ho => ?wth) _ (hid ?_)
      case post => exact fun v W h => ⟨h.1.r0, h.2.2.2⟩
      case dig =>
        refine (pdigC ⟨i, c.ochan, c.send, data, tmo⟩ _ W.heap.size W (HTB.out W (F10.go hW).b) ⟨_, rfl, (HBY10.out.below hW).now⟩ (Nat.le_refl _) HWP.out).mono ?_
        rintro e w' ⟨x, rfl, ho, hb⟩
        obtain ⟨ox, cx, rfl, -⟩ := ho.shape
        rw [digPk_length] at ho ⊢
        exact ⟨ox, cx, rfl, ho, hb⟩
      case wth =>
        refine (sent_more HO10.out (by omega) HSO.out (by omega) i c.send _ od' 32 cd' hW ho).mono ?_
        rintro e w' ⟨v', rfl, hg, hown⟩
        have hob := HO10.out.own 4
        refine ⟨v', rfl, (F10.go hW).grown hg fun b e => ⟨?_, fun g hg' => ?_⟩, (hown.add (X := noX) (fun _ => False) ⟨fun _ h => h.elim, fun _ _ _ => trivial⟩ (fun _ h => h.elim) (fun _ h => h.elim)), (HBY10.out.below hW).grown hg fun b e hF => ?_, ?_⟩
        · have := (hob b e).1; omega
        · have := hlt0 g hg'
          have := (hob b e).1
          omega
        · have := (hob b e).1; omega
        · obtain ⟨o, cp, h, -⟩ := hown.mem.sent.shape
          exact ⟨_, _, _, h⟩
      intro σ W ⟨FW, hown, hby, o, n, cc, hv8⟩
      dsimp only [Fr.list] at FW
      have F11 := FW.set1 0 6 (σ 8) rfl
      have O11 := (Only.refl w.heap.size W).cell 6 (σ 8)
      have HO11 := hid (hown.only O11 (by omega))
      have HBY11 := hid (show Held (fun b => w6.heap.size ≤ b ∧ b < w7.heap.size) _ _ from hby.on O11.below fun b hF => O11.same b (by have := hF.1; have := HF6.out w.heap.size (.head _); omega))
      rw [hv8] at F11 HO11 HBY11 ⊢
      clear O11 hown hby FW hv8 F10 HO10 HBY10
      generalize W.setCell ⟨w.heap.size, 6, none⟩ (.slice o n cc) = w11 at *
      obtain ⟨g, hpg, hgb, hgl, hcc, hfz⟩ := RowT.at HO11.out.chans (r := chCells c) (i := j) (by rw [List.getElem?_map, HJ.out]; rfl)
      subst hpg
      have f4 := hcc 4 _ rfl
      have z4 := hfz (j * 7 + 4)
      have k5 := F11.r0.k10.2.2.2.2.2.1
      have hij := HIJ.out
      subst hij
      have hlt : (j : Int) < (s.chans.length : Int) := by have := (List.getElem?_eq_some_iff.1 HJ.out).1; omega
      have hwr : IntKind.i64.wrap (c.send + 1) = c.send + 1 := by have := HWC.out; rw [IntKind.wrap_i64]; omega
      have hput := RowT.putCell HO11.out.chans (i := j) (j := 4) (x := .int .i64 (c.send + 1)) (r := chCells c) (by rw [List.getElem?_map, HJ.out]; rfl) (by decide) rfl
      have hput' : OwnC 53 chCells 7 (w11.setCell ⟨g, j * 7 + 4, none⟩ (.int .i64 (c.send + 1))) w8.heap.size (.slice (some ⟨g, 0, none⟩) s.chans.length d3) (s.chans.set j c.sent1) := by
        have e : (s.chans.map chCells).set j ((chCells c).set 4 (.int .i64 (c.send + 1))) = (s.chans.set j c.sent1).map chCells := by rw [List.map_set]; rfl
        rw [e] at hput
        exact hput
      have hgr : w11.grownBy (w11.setCell ⟨g, j * 7 + 4, none⟩ (.int .i64 (c.send + 1))) (some g) := grown_putCells w11 g (j * 7 + 4) [.int .i64 (c.send + 1)]
      have HO12 := hid (HO11.out.putChans hgr hput' (fun b e => .inl e) (fun b e => .inr (RowT.own hput' b e).1))
      have hne : ∀ q ∈ [w.heap.size, w.heap.size + 1, w.heap.size + 1 + 1, w3.heap.size, w4.heap.size], q < g := fun q hq => Nat.lt_of_lt_of_le (hlt0 q hq) hgb
      have F12 := F11.past (w2 := w11.setCell ⟨g, j * 7 + 4, none⟩ (.int .i64 (c.send + 1))) ((Below.refl g _).setCell (Nat.le_refl g) _) (by have := hne _ (.head _); omega) hne
      have HBY12 := hid (show Held (fun b => w6.heap.size ≤ b ∧ b < w7.heap.size) (w11.setCell ⟨g, j * 7 + 4, none⟩ (.int .i64 (c.send + 1))) _ from HBY11.out.on ((Below.refl 0 _).setCell (Nat.zero_le _) _) fun b hF => Below.heap_setCell _ _ _ _ (by show b ≠ g; omega))
      obtain ⟨w12, hw12⟩ : ∃ w12, w11.setCell ⟨g, j * 7 + 4, none⟩ (.int .i64 (c.send + 1)) = w12 := ⟨_, rfl⟩
      rw [hw12] at HO12 F12 HBY12
      have HW12 := hid hw12
      clear hw12 hput hput' hcc hfz HO11 HBY11
      go_upto_region 12 with fail
      refine at_world HW12.out ?_
      clear f4 z4 k5 F11 hwr
      have hap : w.heap.size + 1 < w3.heap.size ∧ w.heap.size + 1 + 1 < w3.heap.size ∧ w3.heap.size < w4.heap.size := by
        have := HS3.out
        have := HS4.out
        omega
      refine sendR12 (hid F12.r0) (hid F12.r4) (hid F12.r1) rfl (hid F12.r2) rfl (by simp [Value.oneCell']) (by simp [Value.oneCell']) ⟨by omega, by omega, by omega, by omega, by omega⟩ _ (hid ?_)
      intro σ' W' hT hra hrb e4
      rw [e4]
      have HOF := hid (HO12.out.on hT.below fun b hlt hZ => hT.same b (by omega) (by omega))
      have HBF := hid (HBY12.out.on hT.below fun b hF => hT.same b (by omega) (by omega))
      have HBW := hid (show Below w.heap.size w W' from F12.b.trans ⟨hT.below.os, hT.below.tape, hT.below.output, hT.below.size, fun b hb => hT.same b (by omega) (by omega)⟩)
      have HSZ := hid hT.size
      clear e4 hT F12 HO12 HBY12
      go_wp2
      refine ret_cct Tryz.results11 rfl rfl hra hrb structState structPacket rfl ⟨HBW.out, _, _, by rw [HZN.out]; rfl, ?_, ?_⟩
      · have e : sendS s (j : Int) data tmo = { ({ s with sent := withM s.sent ⟨(j : Int), c.send, digPk ⟨(j : Int), c.ochan, c.send, data, tmo⟩⟩ } : St) with chans := s.chans.set j c.sent1 } := by
          unfold sendS
          rw [if_pos HZN.out, HEQ.out]
          unfold sentS setCh
          rw [HCA.out]
          rfl
        rw [e]
        exact HOF.out.holds (fun b hb => hb.imp id (fun h => by omega))
      · have e : sendP s (j : Int) data tmo = ⟨(j : Int), c.ochan, c.send, data, tmo⟩ := by
          unfold sendP
          rw [if_pos HZN.out, HEQ.out]
        rw [e]
        refine ⟨fun b hb => hb.2, fun w2 hb hk => ⟨_, rfl, HBF.out.2 w2 hb fun b hF => hk b ⟨.inr (by omega), HBF.out.1 b hF⟩⟩⟩
    · have HZN := hid HE2.out
      have HNZ := hid (show sendN s i data tmo ≠ 0 by rw [HE2.out]; exact hz2)
      have e0 : (outN s ⟨i, c.ochan, c.send, data, tmo⟩ (lastH f) c.send != 0) = true := by simpa using hz2
      clear hz2
      go_wp2_with (first | (refine F6.store 1 rfl rfl rfl rfl rfl structState rfl (by simp [Value.oneCell']) ?_; intro wz1 FZ1 OZ1) | (refine FZ1.store 2 rfl rfl rfl rfl rfl structPacket rfl (by simp [Value.oneCell']) ?_; intro wz2 FZ2 OZ2))
      refine ret_cct Tryz.results11 rfl rfl FZ2.r1 FZ2.r2 structState structPacket rfl ⟨FZ2.b, _, _, by rw [HZN.out]; rfl, ?_, ?_⟩
      · rw [(sendS_no HNZ.out).1]
        exact holdsS_none _ _ _
      · rw [(sendS_no HNZ.out).2]
        exact holdsP_none _ _ _
  · have HZN := hid (HE.out.trans (if_pos hz))
    have HNZ := hid (show sendN s i data tmo ≠ 0 by rw [HZN.out]; exact hz)
    have e0 : (cendL s i [3] != 0) = true := by simpa using hz
    clear hz HE
    go_wp2_with (first | (refine F4.store 1 rfl rfl rfl rfl rfl structState rfl (by simp [Value.oneCell']) ?_; intro wz1 FZ1 OZ1) | (refine FZ1.store 2 rfl rfl rfl rfl rfl structPacket rfl (by simp [Value.oneCell']) ?_; intro wz2 FZ2 OZ2))
    refine ret_cct Tryz.results11 rfl rfl FZ2.r1 FZ2.r2 structState structPacket rfl ⟨FZ2.b, _, _, by rw [HZN.out]; rfl, ?_, ?_⟩
    · rw [(sendS_no HNZ.out).1]
      exact holdsS_none _ _ _
    · rw [(sendS_no HNZ.out).2]
      exact holdsP_none _ _ _
end Go.Proofs.YtclhcjiblfokaaaGreatDoor
