/-
  app.Do.
-/
import Derived.Test.YtbjlfhabnjpdmaaGreatDoorlaApObKit
import Derived.Test.YtbjlfhabnjpdmaaGreatDoorlaStWrong
import Derived.Test.YtbjlfhabnjpdmaaGreatDoorlaRegGoR
namespace Go.Proofs.YtbjlfhabnjpdmaaGreatDoor
open Go.RowKit

/-- a variable holds a state -/
def AnyS (N B g : Nat) (s : St) (W : World) : Prop := ∃ cells : Array Value, HoldsS N B W (.agg cells) s ∧ Row W g 28 cells.toList
def doOf (s : St) (O : Out) : Out := if wrongS s ≠ 0 then outC St.none (wrongS s) else if O.err ≠ 0 then outC s O.err else O
set_option maxRecDepth 100000 in
set_option maxHeartbeats 4000000 in
theorem do_any (s : St) (m : Ms) (o : Nat → Option Addr) (c : Nat → Nat) (v : Value) (N : Nat) (w : World) (O : Out) (hv : StV w N v s) (hN : N ≤ w.heap.size) (hfit : s.fits)
    (hob : wrongS s = 0 → ∀ W, Below w.heap.size w W → Calls Tryz.prog 18 #[v, .agg (msC m o c).toArray] W fun e w' => Below W.heap.size W w' ∧ ∃ x, e = .returned x ∧ OutV N W.heap.size w' x O) :
    Calls Tryz.prog 8 #[v, .agg (msC m o c).toArray] w fun e w' => Below w.heap.size w w' ∧ ∃ x, e = .returned x ∧ OutV N w.heap.size w' x (doOf s O) := by
  have HW := hid (fun W (hb : Below w.heap.size w W) => stWrongC s v N W (hv.below (hb.mono hN)) (Nat.le_trans hN hb.size) hfit)
  have HCP := hid (fun (h0 : wrongS s = 0) W (hb : Below w.heap.size w W) => copyC s v N W (hv.below (hb.mono hN)) (Nat.le_trans hN hb.size) hfit (wrongS_few h0))
  have HO := hid hob
  have HD := hid (show doOf s O = if wrongS s ≠ 0 then outC St.none (wrongS s) else if O.err ≠ 0 then outC s O.err else O from rfl)
  obtain ⟨o1, c1, o2, c2, o3, c3, o4, c4, o5, c5, o6, c6, o7, c7, rfl, -⟩ := hv.open
  clear hob hv hfit
  go_enter Tryz.func8, Tryz.ntmps8
  go_upto_region 1 with fail
  refine fbox4 ?_
  intro w0 F0 hs
  clear hs
  go_wp2_with (refine F0.load 0 rfl rfl rfl rfl structState ?_)
  refine (HW.out _ F0.b).mono ?_
  rintro e w1 ⟨rfl, hb1⟩
  have F1 := F0.go hb1
  clear hb1 F0 HW
  by_cases hz : wrongS s = 0
  · replace HD := hid (HD.out.trans (if_neg (by simp [hz])))
    replace HO := hid (HO.out hz)
    replace HCP := hid (HCP.out hz)
    rw [hz]
    clear hz
    go_wp2_with (first | refine F1.load 0 rfl rfl rfl rfl structState ?_ | refine F1.load 1 rfl rfl rfl rfl structMsg ?_)
    refine (HO.out _ F1.b).mono ?_
    rintro e w2 ⟨hb2, x, rfl, v', od, nd, cd, rfl, hh, hp⟩
    have F2 := F1.go hb2
    have HH := hid hh
    have HP := hid hp
    have l2 := F1.r2.lt
    have l3 := F1.r3.lt
    have HB1 := hid F1.b.size
    obtain ⟨a1, b1, d1, a2, b2, d2, a3, b3, d3, a4, b4, d4, a5, b5, d5, a6, b6, d6, a7, b7, d7, rfl⟩ := hh.open
    have hb2s := hb2.size
    clear hb2 hh hp HO F1
    go_upto_region 5 with (first | (refine Fr.store ((F2.addAt (t := 28) (cs := [.string ⟨#[]⟩, .int .i64 0, .int .i64 0, .slice none 0 0, .slice none 0 0, .slice none 0 0, .slice none 0 0, .slice none 0 0, .slice none 0 0, .slice none 0 0]) rfl).addAt (t := 56) (cs := [.int .i64 0, .int .i64 0, .int .i64 0, .int .i64 0, .int .i64 0, .slice none 0 0, .int .i64 0]) (g := w2.heap.size + 1) (by simp)) 4 rfl rfl rfl rfl rfl structState rfl (by simp [Value.oneCell']) ?_; intro w3 F3 O3) | (refine F3.store 5 rfl rfl rfl rfl rfl structDone rfl (by simp [Value.oneCell']) ?_; intro w4 F4 O4))
    have h12 := hb2s
    have hb3 := O3.down (((Below.refl w2.heap.size w2).alloc (Nat.le_refl _) _).alloc (by simp) _) (Nat.le_refl _)
    have hb4 := O4.down hb3 (by omega)
    replace HH := hid (HH.out.below hb4)
    replace HP := hid (HP.out.below hb4)
    have HF4 := hid F4
    have HB4 := hid F4.b.size
    have y0 : w4.cell? ⟨w2.heap.size + 1, 0, none⟩ = some (.int .i64 O.err) := F4.r5.cell 0
    clear hb3 hb4 O3 O4 F2 F3 F4
    by_cases hz : O.err = 0
    · rw [if_neg (by simp [hz])] at HD
      have HZ := hid hz
      have hzb : (O.err != 0) = false := by simpa using hz
      clear hz
      go_upto_region 7 with fail
      clear y0 hzb
      have hs4 := HF4.out.r3.lt
      have HR := hid (show Rel (Wr [w.heap.size + 1 + 1, w.heap.size + 1 + 1 + 1] [fun W => Row W (w.heap.size + 1 + 1) 28 [.string O.st.name, .int .i64 O.st.height, .int .i64 O.st.time, .slice a1 b1 d1, .slice a2 b2 d2, .slice a3 b3 d3, .slice a4 b4 d4, .slice a5 b5 d5, .slice a6 b6 d6, .slice a7 b7 d7], fun W => Row W (w.heap.size + 1 + 1 + 1) 56 [.int .i64 O.err, .int .i64 O.num, .int .i64 O.pk.src, .int .i64 O.pk.dst, .int .i64 O.pk.seq, .slice od nd cd, .int .i64 O.pk.tmo], Sp (w.heap.size + 1 + 1) 28 10, Sp (w.heap.size + 1 + 1 + 1) 56 7]) from Wr.rel (by
        intro A hA W W' hb h
        simp only [List.mem_cons, List.not_mem_nil, or_false] at hA
        rcases hA with rfl | rfl | rfl | rfl
        · exact Row.below h hb (Row.lt h)
        · exact Row.below h hb (Row.lt h)
        · exact Sp.low hb h
        · exact Sp.low hb h))
      have S2 := hid (show Sp (w.heap.size + 1 + 1) 28 10 w4 from ⟨_, HF4.out.r2, rfl⟩)
      have S3 := hid (show Sp (w.heap.size + 1 + 1 + 1) 56 7 w4 from ⟨_, HF4.out.r3, rfl⟩)
      apply region_goR HR.out (by kernel_rfl) (fun W hb => And.intro (hb.row HF4.out.r4 (by simp; omega)).k10 (hb.row HF4.out.r5 (by simp; omega)).k7) (by kernel_rfl)
      · intro σ; simp [slotAll]; exact rfl
      iterate 2 (apply RS.val HR.out rfl; · intro σ W hb hc ⟨hd, hu⟩; simp [Fresh, Region.binds] at hd hu; go_simp; exact rfl)
      apply RS.store (fun W => Row W (w.heap.size + 1 + 1) 28 [.string O.st.name, .int .i64 O.st.height, .int .i64 O.st.time, .slice a1 b1 d1, .slice a2 b2 d2, .slice a3 b3 d3, .slice a4 b4 d4, .slice a5 b5 d5, .slice a6 b6 d6, .slice a7 b7 d7]) (fun W W' hb h => hb.2.2 (fun W => Row W (w.heap.size + 1 + 1) 28 [.string O.st.name, .int .i64 O.st.height, .int .i64 O.st.time, .slice a1 b1 d1, .slice a2 b2 d2, .slice a3 b3 d3, .slice a4 b4 d4, .slice a5 b5 d5, .slice a6 b6 d6, .slice a7 b7 d7]) (by simp) h) rfl rfl (fun W hb => hb.2.2 _ (by simp) S2.out) structState
      · intro σ W hb hc ⟨hd, hu⟩
        have e0 : σ 0 = .agg #[.string O.st.name, .int .i64 O.st.height, .int .i64 O.st.time, .slice a1 b1 d1, .slice a2 b2 d2, .slice a3 b3 d3, .slice a4 b4 d4, .slice a5 b5 d5, .slice a6 b6 d6, .slice a7 b7 d7] := hd ⟨0, .data⟩ (by simp) (by decide)
        refine ⟨_, rfl, e0, rfl, by simp [Value.oneCell'], fun W' g2 g3 => ⟨Wr.write g2 (by simp) ?_, g3⟩⟩
        intro A hA h
        simp only [List.mem_cons, List.not_mem_nil, or_false] at hA
        rcases hA with rfl | rfl | rfl | rfl
        · exact g3
        · exact (g2.same _ (by omega)).trans h
        · exact ⟨_, g3, rfl⟩
        · exact Sp.only g2 (by omega) h
      apply RS.store (fun W => Row W (w.heap.size + 1 + 1 + 1) 56 [.int .i64 O.err, .int .i64 O.num, .int .i64 O.pk.src, .int .i64 O.pk.dst, .int .i64 O.pk.seq, .slice od nd cd, .int .i64 O.pk.tmo]) (fun W W' hb h => hb.2.2 (fun W => Row W (w.heap.size + 1 + 1 + 1) 56 [.int .i64 O.err, .int .i64 O.num, .int .i64 O.pk.src, .int .i64 O.pk.dst, .int .i64 O.pk.seq, .slice od nd cd, .int .i64 O.pk.tmo]) (by simp) h) rfl rfl (fun W hb => hb.2.2 _ (by simp) S3.out) structDone
      · intro σ W hb hc ⟨hd, hu⟩
        have e1 : σ 1 = .agg #[.int .i64 O.err, .int .i64 O.num, .int .i64 O.pk.src, .int .i64 O.pk.dst, .int .i64 O.pk.seq, .slice od nd cd, .int .i64 O.pk.tmo] := hd ⟨1, .data⟩ (by simp) (by decide)
        refine ⟨_, rfl, e1, rfl, by simp [Value.oneCell'], fun W' g2 g3 => ⟨Wr.write g2 (by simp) ?_, g3⟩⟩
        intro A hA h
        simp only [List.mem_cons, List.not_mem_nil, or_false] at hA
        rcases hA with rfl | rfl | rfl | rfl
        · exact (g2.same _ (by omega)).trans h
        · exact g3
        · exact Sp.only g2 (by omega) h
        · exact ⟨_, g3, rfl⟩
      intro σ W hb _
      simp only [AllF, List.nil_append, List.cons_append, Nat.reduceAdd]
      intro hF
      obtain ⟨-, -, h2, h3, -⟩ := hF
      have HBW := hid (HF4.out.b.trans (hb.below (by omega) (by simp; omega)))
      have H1 := hid (HH.out.on hb.1 fun b hlt hF => hb.2.1 b hlt (by simp; omega))
      have H4 := hid (HP.out.past hb.1 fun b hlt hF => hb.2.1 b hlt (by simp; omega))
      have H2 := hid h2
      have H3 := hid h3
      clear hb h2 h3
      go_wp2
      refine ret_cc Tryz.results8 rfl H2.out structState rfl H3.out structDone rfl ⟨HBW.out, _, rfl, ?_⟩
      rw [HD.out]
      exact ⟨_, od, nd, cd, rfl, H1.out.lower HB1.out, H4.out.lower HB1.out⟩
    · rw [if_pos hz] at HD
      have hzb : (O.err != 0) = true := by simpa using hz
      clear hz
      go_upto_region 6 with fail
      clear y0 hzb
      have hs4 := HF4.out.r3.lt
      have HR := hid (show Rel (Wr [w.heap.size + 1 + 1, w.heap.size + 1 + 1 + 1] [AnyS N w4.heap.size (w.heap.size + 1 + 1) s, fun W => Row W (w.heap.size + 1 + 1 + 1) 56 [.int .i64 O.err, .int .i64 0, .int .i64 0, .int .i64 0, .int .i64 0, .slice none 0 0, .int .i64 0], Sp (w.heap.size + 1 + 1) 28 10, Sp (w.heap.size + 1 + 1 + 1) 56 7]) from Wr.rel (by
        intro A hA W W' hb h
        simp only [List.mem_cons, List.not_mem_nil, or_false] at hA
        rcases hA with rfl | rfl | rfl | rfl
        · obtain ⟨cells, h1, h2⟩ := h; exact ⟨cells, h1.below hb, h2.below hb h2.lt⟩
        · exact Row.below h hb (Row.lt h)
        · exact Sp.low hb h
        · exact Sp.low hb h))
      have S2 := hid (show Sp (w.heap.size + 1 + 1) 28 10 w4 from ⟨_, HF4.out.r2, rfl⟩)
      have S3 := hid (show Sp (w.heap.size + 1 + 1 + 1) 56 7 w4 from ⟨_, HF4.out.r3, rfl⟩)
      apply region_goR HR.out (by kernel_rfl) (fun W hb => And.intro (hb.row HF4.out.r0 (by simp; omega)).k10 ((hb.row HF4.out.r5 (by simp; omega)).cell 0)) (by kernel_rfl)
      · intro σ; simp [slotAll]; exact rfl
      apply RS.val HR.out rfl; · intro σ W hb hc ⟨hd, hu⟩; simp [Fresh, Region.binds] at hd hu; go_simp; exact rfl
      apply RS.callG (fun X W => HoldsS N w4.heap.size W X s) (fun _ W W' hb h => h.on hb.1 fun b hlt hF => hb.2.1 b hlt (by simp; omega)) rfl
      · intro σ W hb hc ⟨hd, hu⟩; simp [Fresh, Region.binds] at hd hu
        refine ⟨_, _, by go_simp <;> first | exact rfl | exact ⟨rfl, rfl⟩, (HCP.out W (HF4.out.b.trans (hb.below (by omega) (by simp; omega)))).mono ?_⟩
        rintro e w' ⟨hb', p1, d1, p2, d2, p3, d3, p4, d4, p5, d5, p6, d6, p7, d7, rfl, hown⟩
        exact ⟨_, rfl, HR.out.low _ _ hb', hown.holds.lower hb.1.size⟩
      iterate 3 (apply RS.val HR.out rfl; · intro σ W hb hc ⟨hd, hu⟩; simp [Fresh, Region.binds] at hd hu; go_simp; exact rfl)
      apply RS.store (AnyS N w4.heap.size (w.heap.size + 1 + 1) s) (fun W W' hb h => hb.2.2 _ (by simp) h) rfl rfl (fun W hb => hb.2.2 _ (by simp) S2.out) structState
      · intro σ W hb hc ⟨hd, hu⟩
        have hd1 : HoldsS N w4.heap.size W (σ 1) s := hd ⟨1, .data⟩ (by simp) (by decide)
        obtain ⟨p1, q1, r1, p2, q2, r2, p3, q3, r3, p4, q4, r4, p5, q5, r5, p6, q6, r6, p7, q7, r7, e1⟩ := hd1.open
        rw [e1] at hd1
        refine ⟨_, rfl, e1, rfl, by simp [Value.oneCell'], fun W' g2 g3 => ⟨Wr.write g2 (by simp) ?_, _, hd1.only g2 (by omega) (by omega), g3⟩⟩
        intro A hA h
        simp only [List.mem_cons, List.not_mem_nil, or_false] at hA
        rcases hA with rfl | rfl | rfl | rfl
        · exact ⟨_, hd1.only g2 (by omega) (by omega), g3⟩
        · exact (g2.same _ (by omega)).trans h
        · exact ⟨_, g3, rfl⟩
        · exact Sp.only g2 (by omega) h
      apply RS.store (fun W => Row W (w.heap.size + 1 + 1 + 1) 56 [.int .i64 O.err, .int .i64 0, .int .i64 0, .int .i64 0, .int .i64 0, .slice none 0 0, .int .i64 0]) (fun W W' hb h => hb.2.2 (fun W => Row W (w.heap.size + 1 + 1 + 1) 56 [.int .i64 O.err, .int .i64 0, .int .i64 0, .int .i64 0, .int .i64 0, .slice none 0 0, .int .i64 0]) (by simp) h) rfl rfl (fun W hb => hb.2.2 _ (by simp) S3.out) structDone
      · intro σ W hb hc ⟨hd, hu⟩
        have e4 : σ 4 = .agg #[.int .i64 O.err, .int .i64 0, .int .i64 0, .int .i64 0, .int .i64 0, .slice none 0 0, .int .i64 0] := hd ⟨4, .data⟩ (by simp) (by decide)
        refine ⟨_, rfl, e4, rfl, by simp [Value.oneCell'], fun W' g2 g3 => ⟨Wr.write g2 (by simp) ?_, g3⟩⟩
        intro A hA h
        simp only [List.mem_cons, List.not_mem_nil, or_false] at hA
        rcases hA with rfl | rfl | rfl | rfl
        · obtain ⟨cells, h1, h2⟩ := h; exact ⟨cells, h1.only g2 (by omega) (by omega), (g2.same _ (by omega)).trans h2⟩
        · exact g3
        · exact Sp.only g2 (by omega) h
        · exact ⟨_, g3, rfl⟩
      intro σ W hb _
      simp only [AllF, List.nil_append, List.cons_append, Nat.reduceAdd]
      intro hF
      obtain ⟨-, -, -, -, -, ⟨cells, h1, h2⟩, h3, -⟩ := hF
      have HBW := hid (HF4.out.b.trans (hb.below (by omega) (by simp; omega)))
      obtain ⟨p1, q1, r1, p2, q2, r2, p3, q3, r3, p4, q4, r4, p5, q5, r5, p6, q6, r6, p7, q7, r7, e1⟩ := h1.open
      obtain rfl : cells = _ := (Value.agg.inj e1)
      have H1 := hid h1
      have H2 := hid h2
      have H3 := hid h3
      clear hb h1 h2 h3 e1
      go_wp2
      refine ret_cc Tryz.results8 rfl H2.out structState rfl H3.out structDone rfl ⟨HBW.out, _, rfl, ?_⟩
      rw [HD.out]
      exact ⟨_, none, 0, 0, rfl, H1.out.lower HB4.out, holdsP_none _ _ _⟩
  · replace HD := hid (HD.out.trans (if_pos hz))
    have hzb : (wrongS s != 0) = true := by simpa using hz
    generalize wrongS s = ws at *
    go_wp2_with (first | (refine F1.store 2 rfl rfl rfl rfl rfl structState rfl (by simp [Value.oneCell']) ?_; intro w3 F3 O3) | (refine F3.store 3 rfl rfl rfl rfl rfl structDone rfl (by simp [Value.oneCell']) ?_; intro w4 F4 O4))
    refine ret_cc Tryz.results8 rfl F4.r2 structState rfl F4.r3 structDone rfl ⟨F4.b, _, rfl, ?_⟩
    rw [HD.out]
    exact ⟨_, none, 0, 0, rfl, holdsS_none _ _ _, holdsP_none _ _ _⟩
end Go.Proofs.YtbjlfhabnjpdmaaGreatDoor
