/-
  A packet is settled: packet.Ack.
-/
import Derived.Test.YtclhcjiblfokaaaGreatDoorppPkSend
import Derived.Test.YtclhcjiblfokaaaGreatDoorppPkKey
import Derived.Test.YtclhcjiblfokaaaGreatDoorppClShown
import Derived.Test.YtclhcjiblfokaaaGreatDoorppMkDel
namespace Go.Proofs.YtclhcjiblfokaaaGreatDoor
open Go.RowKit

set_option maxRecDepth 100000 in
set_option maxHeartbeats 4000000 in
theorem settled_any (s : St) (p : Pk) (m : Mk) (v pv : Value) (N : Nat) (w : World) (hv : StV w N v s) (hp : PkV w N pv p) (hN : N ≤ w.heap.size) (hfit : s.fits) (h0 : wrongS s = 0) (hm : hasM s.sent p.src p.seq = some m) :
    Calls Tryz.prog 51 #[v, pv] w fun e w' => Below w.heap.size w w' ∧ ∃ p1 d1 p2 d2 p3 d3 p4 n4 d4 p5 d5 p6 d6 p7 d7, e = .returned (.agg #[.string s.name, .int .i64 s.height, .int .i64 s.time, .slice p1 s.clients.length d1, .slice p2 s.conns.length d2, .slice p3 s.chans.length d3, .slice p4 n4 d4, .slice p5 s.got.length d5, .slice p6 s.acks.length d6, .slice p7 s.purses.length d7]) ∧ StOwnM (fun b => b < N ∨ w.heap.size ≤ b) w.heap.size w' { s with sent := withoutM s.sent p.src p.seq } noX (.slice p1 s.clients.length d1) (.slice p2 s.conns.length d2) (.slice p3 s.chans.length d3) (.slice p4 n4 d4) (.slice p5 s.got.length d5) (.slice p6 s.acks.length d6) (.slice p7 s.purses.length d7) := by
  have HCP := hid (fun W (hx : Below w.heap.size w W) => copyM s v N W (hv.below (hx.mono hN)) (Nat.le_trans hN hx.size) hfit (wrongS_few h0))
  have hR := wrongS_right h0
  have hlen := hR.many.2.2.1
  have HSO := hid hR.sent.2
  obtain ⟨hpa, -, hwo⟩ := place_at (x := ⟨p.src, p.seq, []⟩) HSO.out hm
  simp only at hpa hwo
  have HPA := hid hpa
  have HWO := hid hwo
  have HSM := hid (show (hasM s.sent p.src p.seq).isSome = true by rw [hm]; rfl)
  obtain ⟨o1, c1, o2, c2, o3, c3, o4, c4, o5, c5, o6, c6, o7, c7, rfl, hmm⟩ := hv.open
  obtain ⟨odd, cdd, rfl, hd⟩ := hp.open
  clear hv hmm hp hd hfit h0 hR hm hpa hwo
  go_enter Tryz.func51, Tryz.ntmps51
  go_upto_region 1 with fail
  refine fbox3 ?_
  intro w0 F0 hs0
  go_wp2_with (refine F0.load 0 rfl rfl rfl rfl structState ?_)
  refine (HCP.out w0 F0.b).mono ?_
  rintro e w1 ⟨hb1, p1, d1, p2, d2, p3, d3, p4, d4, p5, d5, p6, d6, p7, d7, rfl, hown⟩
  have F1 := F0.go hb1
  have hg0 := F0.r0.lt
  have hg1 := F0.r1.lt
  have hg2 := F0.r2.lt
  have hsz1 := hb1.size
  have HO1 := hid hown
  clear hown hb1 HCP hs0 F0
  go_upto_region 2 with (refine F1.store 0 rfl rfl rfl rfl rfl structState rfl (by simp [Value.oneCell']) ?_; intro w2 F2 O2)
  have HO2 := hid (HO1.out.only O2 (by omega))
  have hsz2 := O2.size
  clear O2 F1 HO1
  have k6 := F2.r0.k10.2.2.2.2.2.2.1
  have z6 := F2.r0.frozen 6
  obtain ⟨m0, m1, m2, m3, m4⟩ := F2.r1.k5
  go_wp2_with fail
  refine (mfind_any s.sent p.src p.seq _ w2.heap.size w2 (Nat.le_refl _) HO2.out.mem.sent HSO.out (by omega)).mono ?_
  rintro e w3 ⟨rfl, hb3⟩
  rw [HSM.out]
  have F3 := F2.go hb3
  have HO3 := hid (HO2.out.below hb3)
  have hsz3 := hb3.size
  clear k6 z6 m0 m1 m2 m3 m4 hb3 F2 HO2
  obtain ⟨rs, hrow, hE, hput⟩ := HO3.out.putSent
  generalize placeM s.sent p.src p.seq = k at *
  have hkl : k < s.sent.length := (List.getElem?_eq_some_iff.1 HPA.out).1
  have hkr : k < rs.length := by rw [hE.1]; exact hkl
  have hwr : IntKind.i64.wrap ((k : Int) + 1) = ((k + 1 : Nat) : Int) := by rw [IntKind.wrap_i64]; omega
  have HDE := hid (mdelete_any rs k w0.heap.size _ w3 hrow hkr (k + 1) rfl)
  have HEE := hid hE
  have HPUT := hid hput
  have HOB := hid HO3.out.own
  clear hrow hE hput hkr
  have k6 := F3.r0.k10.2.2.2.2.2.2.1
  go_wp2_with fail
  refine HDE.out.mono ?_
  rintro e w4 ⟨hg4, v4, rfl, hrow4, hob4⟩
  have hown4 := HPUT.out w4 v4 _ (withoutM s.sent p.src p.seq) hg4 hrow4 (fun b e => .inl (by rw [← hob4]; exact e)) (fun b e => .inr (RowT.own hrow4 b e).1) (fun w2 g1 _ => by rw [← HWO.out]; exact g1.del hkl)
  obtain ⟨oq, cq, hvq, -⟩ := hown4.mem.sent.shape
  generalize (({ s with sent := withoutM s.sent p.src p.seq } : St).sent).length = nq at hvq
  subst hvq
  have F4 := F3.grown hg4 fun b e => ⟨by have := (HOB.out 4 b e).1; omega, fun g hg' => by
    have := (HOB.out 4 b e).1
    simp at hg'
    omega⟩
  have HO4 := hid hown4
  have hsz4 := hg4.size
  clear hg4 hown4 hrow4 hob4 HDE HEE HPUT HOB k6 F3 HO3 hwr
  have k6 := F4.r0.k10.2.2.2.2.2.2.1
  have z6 := F4.r0.frozen 6
  go_upto_region 5 with fail
  refine F4.cell 0 rfl ?_
  intro w5 F5 O5
  have HO5 := hid (HO4.out.only O5 (by omega))
  clear k6 z6 O5 F4 HO4
  go_wp2_with (first | refine F5.load 0 rfl rfl rfl rfl structState ?_ | (refine F5.store 2 rfl rfl rfl rfl rfl structState rfl (by simp [Value.oneCell']) ?_; intro w6 F6 O6))
  refine ret_c Tryz.results51 rfl F6.r2 structState rfl ⟨F6.b, p1, d1, p2, d2, p3, d3, oq, nq, cq, p5, d5, p6, d6, p7, d7, rfl, ?_⟩
  exact ((HO5.out.only O6 (by omega)).lower (by omega)).wide (fun b _ hb => hb.imp id (fun h => by omega))
end Go.Proofs.YtclhcjiblfokaaaGreatDoor
namespace Go.Proofs.YtclhcjiblfokaaaGreatDoor
open Go.RowKit

set_option maxRecDepth 100000 in
set_option maxHeartbeats 4000000 in
theorem sndrR12 {y0 y1 y4 y5 y6 y7 y8 y10 y11 y12 y13 y14 y15 y16 y17 y18 y19 y20 y21 y22 y23 y24 y25 y26 y27 y28 y29 y30 y31 y32 y33 y34 y35 y36 y37 y38 y39 y40 y41 y42 y43 y44 y45 y46 y47 y48 y49 y50 y51 y63 y64 z52 z53 z54 z55 z56 z57 z58 z59 z60 z61 z62 : Value} {x0 x1 x2 x3 x4 x5 x7 x8 x9 p0 p1 p2 p3 p4 : Value} {gs gp b f k n c nd cd : Nat} {od : Option Addr} {bb : Bool} {dig : List (BitVec 8)} {w : World} (hgs : Hid (Row w gs 28 [x0, x1, x2, x3, x4, x5, .slice (some ⟨b, f, none⟩) n c, x7, x8, x9])) (hgp : Hid (Row w gp 31 [p0, p1, p2, p3, p4])) (hlb : (k : Int) < (n : Int)) (hbb : b < w.heap.size) (hcb : Hid (w.cell? ⟨b, f + k * 3 + 2, none⟩ = some (.slice od nd cd))) (hdig : ∀ W, Below w.heap.size w W → Calls Tryz.prog 9 #[.agg #[p0, p1, p2, p3, p4]] W fun e w' => ∃ v, e = .returned v ∧ OwnB w' W.heap.size v dig ∧ Below W.heap.size W w') (heq : ∀ W v, Below w.heap.size w W → OwnB W w.heap.size v dig → Calls Tryz.prog 97 #[.slice od nd cd, v] W fun e w' => e = .returned (.bool bb) ∧ w' = W) (Q : Exit → Act → World → Prop)
    (hQ : Hid (∀ (σ : Nat → Value) (w' : World), Below w.heap.size w w' → σ 10 = .bool (!bb) → Q .normal ⟨#[y0, y1, .pointer (some ⟨gs, 0, none⟩), .pointer (some ⟨gp, 0, none⟩), y4, y5, y6, y7, y8, .int .i64 (k : Int), y10, y11, y12, y13, y14, y15, y16, y17, y18, y19, y20, y21, y22, y23, y24, y25, y26, y27, y28, y29, y30, y31, y32, y33, y34, y35, y36, y37, y38, y39, y40, y41, y42, y43, y44, y45, y46, y47, y48, y49, y50, y51, σ 10, σ 0, σ 1, σ 2, σ 3, σ 4, σ 5, σ 6, σ 7, σ 8, σ 9, y63, y64], []⟩ w')) :
    Code.wp Tryz.prog (.region 12 ((Tryz.f49.body.bind (regOf 12)).getD #[]) true) Q ⟨#[y0, y1, .pointer (some ⟨gs, 0, none⟩), .pointer (some ⟨gp, 0, none⟩), y4, y5, y6, y7, y8, .int .i64 (k : Int), y10, y11, y12, y13, y14, y15, y16, y17, y18, y19, y20, y21, y22, y23, y24, y25, y26, y27, y28, y29, y30, y31, y32, y33, y34, y35, y36, y37, y38, y39, y40, y41, y42, y43, y44, y45, y46, y47, y48, y49, y50, y51, z52, z53, z54, z55, z56, z57, z58, z59, z60, z61, z62, y63, y64], []⟩ w := by
  conv => arg 2; arg 2; whnf
  conv => arg 4; dsimp only
  refine region_grows (by kernel_rfl) (fun σ => #[y0, y1, .pointer (some ⟨gs, 0, none⟩), .pointer (some ⟨gp, 0, none⟩), y4, y5, y6, y7, y8, .int .i64 (k : Int), y10, y11, y12, y13, y14, y15, y16, y17, y18, y19, y20, y21, y22, y23, y24, y25, y26, y27, y28, y29, y30, y31, y32, y33, y34, y35, y36, y37, y38, y39, y40, y41, y42, y43, y44, y45, y46, y47, y48, y49, y50, y51, σ 10, σ 0, σ 1, σ 2, σ 3, σ 4, σ 5, σ 6, σ 7, σ 8, σ 9, y63, y64]) (fun i => ([z53, z54, z55, z56, z57, z58, z59, z60, z61, z62, z52] : List Value).getD i undef) rfl (fun i X W => match i with
    | 0 => X = .pointer (some ⟨gs, 6, none⟩)
    | 1 => X = .slice (some ⟨b, f, none⟩) n c
    | 2 => X = .int .i64 (k : Int)
    | 3 => X = .pointer (some ⟨b, f + k * 3, none⟩)
    | 4 => X = .pointer (some ⟨b, f + k * 3 + 2, none⟩)
    | 5 => X = .slice od nd cd
    | 6 => X = .agg #[p0, p1, p2, p3, p4]
    | 7 => OwnB W w.heap.size X dig
    | 8 => X = .bool bb
    | 9 => X = .bool (!bb)
    | 10 => X = .bool (!bb)
    | _ => True) ?_ (by kernel_rfl) ?_ ?_
  · intro i X W W' HB H
    iterate 11 (obtain _ | i := i; first | exact H | exact H.below HB)
    exact H
  · refine ⟨?_, ?_, ?_, ?_, ?_, ?_, ?_, ?_, ?_, ?_, ?_, trivial⟩
    all_goals (intro σ W HJ hdep; simp [Region.binds] at hdep; have HJ := hid HJ; obtain ⟨gsk0, gsk1, gsk2, gsk3, gsk4, gsk5, gsk6, gsk7, gsk8, gsk9⟩ := (hgs.out.below HJ.out hgs.out.lt).k10; obtain ⟨gpk0, gpk1, gpk2, gpk3, gpk4⟩ := (hgp.out.below HJ.out hgp.out.lt).k5; have bk0 := hcb.out; replace bk0 := (HJ.out.cell (by exact hbb)).trans bk0)
    · refine wpOp_plain rfl rfl ?_; go_simp; exact Left.mk0 _ (by first | rfl | simp [updF, *]) HJ.out rfl
    · refine wpOp_plain rfl rfl ?_; go_simp; exact Left.mk0 _ (by first | rfl | simp [updF, *]) HJ.out rfl
    · refine wpOp_plain rfl rfl ?_; go_simp; exact Left.mk0 _ (by first | rfl | simp [updF, *]) HJ.out rfl
    · refine wpOp_plain rfl rfl ?_; go_simp; exact Left.mk0 _ (by first | rfl | simp [updF, *]) HJ.out rfl
    · refine wpOp_plain rfl rfl ?_; go_simp; exact Left.mk0 _ (by first | rfl | simp [updF, *]) HJ.out rfl
    · refine wpOp_plain rfl rfl ?_; go_simp; exact Left.mk0 _ (by first | rfl | simp [updF, *]) HJ.out rfl
    · refine wpOp_plain rfl rfl ?_; go_simp; exact Left.mk0 _ (by first | rfl | simp [updF, *]) HJ.out rfl
    · have HC := hid (hdig W HJ.out); refine wpOp_plain rfl rfl ?_; go_simp; refine HC.out.mono ?_; rintro e w2 ⟨v, rfl, ho, hb⟩; exact Left.mk v (by first | rfl | simp [updF, *]) hb HJ.out (ownsB_mono ho HJ.out.size)
    · obtain ⟨d5, d7⟩ := hdep; have HC := hid (heq W _ HJ.out d7); clear d7; refine wpOp_plain rfl rfl ?_; go_simp; refine HC.out.mono ?_; rintro e w2 ⟨rfl, hw2⟩; obtain rfl := hw2.symm; exact Left.mk0 _ (by first | rfl | simp [updF, *]) HJ.out rfl
    · refine wpOp_plain rfl rfl ?_; go_simp; exact Left.mk0 _ (by first | rfl | simp [updF, *]) HJ.out rfl
    · refine wpOp_plain rfl rfl ?_; go_simp; exact Left.mk0 _ (by first | rfl | simp [updF, *]) HJ.out rfl
  · intro σ w' hb hg
    exact hQ.out σ w' hb (hg 10 (by decide))
set_option maxRecDepth 100000 in
set_option maxHeartbeats 4000000 in
theorem sndr_any (s : St) (p : Pk) (v pv : Value) (N : Nat) (w : World) (hv : StV w N v s) (hp : PkV w N pv p) (hN : N ≤ w.heap.size) (hfit : s.fits) (htab : tableAt w) :
    Calls Tryz.prog 49 #[v, pv] w fun e w' => Below w.heap.size w w' ∧ ∃ ev, e = .returned (.tuple #[ev, .int .i64 (sndrN s p)]) ∧ EndR w' N ev s p.src (sndrN s p) := by
  have HE := hid (show sndrN s p = if wrongPk p ≠ 0 then wrongPk p else if cendL s p.src [3, 4] ≠ 0 then cendL s p.src [3, 4] else if (chAt s p.src).ochan ≠ p.dst then 8 else match hasM s.sent p.src p.seq with
    | none => 6
    | some m => if m.dig ≠ digPk p then 8 else 0 from rfl)
  have HERR := hid (show ∀ (w : World), sndrN s p ≠ 0 → EndR w N (.agg #[.int .i64 0, .bool false, .int .i64 0, .int .i64 0, .int .i64 0, .int .i64 0, .int .i64 0, .string ⟨#[]⟩, .int .i64 0, .bool false, .slice none 0 0]) s p.src (sndrN s p) from fun w hz => ⟨fun h => absurd h hz, fun _ => rfl⟩)
  have HWP := hid (fun W (hx : Below w.heap.size w W) => pwrong_any p pv N W (hp.below (hx.mono hN)))
  have HEN := hid (fun W gl (hx : Below w.heap.size w W) (hr : Row W gl 3 [.int .i64 3, .int .i64 4]) => pend_any s v N W p.src [3, 4] gl 2 (hv.below (hx.mono hN)) (Nat.le_trans hN hx.size) hfit hr rfl (by decide))
  have HDG := hid (fun W (hx : Below w.heap.size w W) (hw : wrongPk p = 0) => pdigC p pv N W (htab.past hx) (hp.below (hx.mono hN)) (Nat.le_trans hN hx.size) hw)
  obtain ⟨o1, c1, o2, c2, o3, c3, o4, c4, o5, c5, o6, c6, o7, c7, rfl, hm⟩ := hv.open
  obtain ⟨odd, cdd, rfl, hd⟩ := hp.open
  have HM := hid hm
  clear hv hm hp hd hfit htab
  go_enter Tryz.func49, Tryz.ntmps49
  go_upto_region 1 with fail
  refine fbox3 ?_
  intro w0 F0 hs0
  go_wp2_with (refine F0.load 1 rfl rfl rfl rfl structPacket ?_)
  refine (HWP.out w0 F0.b).mono ?_
  rintro e w1 ⟨rfl, hb1⟩
  have F1 := F0.go hb1
  clear hb1 F0 hs0 HWP
  by_cases hz : wrongPk p = 0
  · have HE1 := hid (HE.out.trans (if_neg (by simp [hz])))
    have HWK := hid hz
    rw [hz]
    clear hz HE
    have m0 := F1.r1.k5.1
    go_wp2_with (refine F1.load 0 rfl rfl rfl rfl structState ?_)
    refine boxC ?_
    intro w2 hr2 hb2
    refine (HEN.out w2 _ (F1.go hb2).b hr2).mono ?_
    rintro e w3 ⟨hb3, ev, rfl, her⟩
    have F3 := (F1.go hb2).go hb3
    obtain ⟨y0, y1, y2, y3, y4, y5, y6, y7, y8, y9, y10, hev, hone⟩ := her.cells
    subst hev
    have HER := hid her
    have HON := hid hone
    clear her hone hr2 hb2 hb3 F1 HEN m0
    go_upto_region 5 with (refine F3.storeNew rfl rfl rfl rfl structEnd rfl HON.out ?_; intro w4 F4 hb4)
    have HER4 := hid (HER.out.below (hb4.mono (Nat.le_trans hN F3.b.size)))
    clear HER HON hb4 F3
    by_cases hz : cendL s p.src [3, 4] = 0
    · have HE2 := hid (HE1.out.trans (if_neg (by simp [hz])))
      obtain ⟨ka, ma, hev, hfv⟩ := HER4.out.1 hz
      have hR := wrongS_right (cendL_ok hz).1
      have hlen := hR.many.2.2.1
      have HSO := hid hR.sent.2
      simp only [Value.agg.injEq, Array.mk.injEq, List.cons.injEq, and_true] at hev
      obtain ⟨rfl, rfl, rfl, rfl, rfl, rfl, rfl, rfl, rfl, rfl, rfl⟩ := hev
      have HOK := hid (show ∀ (w : World) (ev : Value), sndrN s p = 0 → EndV w N ev (chAt s p.src) (folOf s p.src) → EndR w N ev s p.src (sndrN s p) from fun w ev h1 h2 => ⟨fun _ => h2, fun h => absurd h1 h⟩)
      rw [hz]
      have HFV := hid hfv
      clear hz hfv HER4 HE1 hR
      generalize chAt s p.src = c at *
      generalize folOf s p.src = f at *
      have k3 := F4.r3.k11.2.2.2.1
      obtain ⟨m0, m1, m2, m3, m4⟩ := F4.r1.k5
      obtain ⟨s0, s1, s2, s3, s4, s5, s6, s7, s8, s9⟩ := F4.r0.k10
      by_cases h1 : c.ochan = p.dst
      · have HE3 := hid (HE2.out.trans (if_neg (by simp [h1])))
        have e1 : (c.ochan != p.dst) = false := by simpa using h1
        clear h1 HE2
        go_wp2_with fail
        refine (mfind_any s.sent p.src p.seq _ N w4 (Nat.le_trans hN F4.b.size) (HM.out.below (F4.b.mono hN)).sent HSO.out (by omega)).mono ?_
        rintro e w5 ⟨rfl, hb5⟩
        have F5 := F4.go hb5
        have HFV5 := hid (HFV.out.below (hb5.mono (Nat.le_trans hN F4.b.size)))
        clear k3 m0 m1 m2 m3 m4 s0 s1 s2 s3 s4 s5 s6 s7 s8 s9 e1 hb5 F4 HFV
        cases hm : hasM s.sent p.src p.seq with
        | none =>
          have HL := hid (show sndrN s p = 6 by have := HE3.out; rw [hm] at this; exact this)
          clear hm HE3
          generalize placeM s.sent p.src p.seq = kk at *
          go_wp2_with (refine F5.store 2 rfl rfl rfl rfl rfl structEnd rfl (by simp [Value.oneCell']) ?_; intro wz FZ OZ)
          exact ret_ct Tryz.results49 rfl FZ.r2 structEnd rfl ⟨FZ.b, _, by rw [HL.out]; rfl, HERR.out _ (by rw [HL.out]; decide)⟩
        | some m =>
          have HE4 := hid (show sndrN s p = if m.dig ≠ digPk p then 8 else 0 by have := HE3.out; rw [hm] at this; exact this)
          have hpa := (place_at (x := ⟨p.src, p.seq, []⟩) HSO.out hm).1
          simp only at hpa
          clear hm HE3
          generalize placeM s.sent p.src p.seq = k at *
          have hlt : (k : Int) < (s.sent.length : Int) := by have := (List.getElem?_eq_some_iff.1 hpa).1; omega
          obtain ⟨b, g, hob, hcells⟩ := (HM.out.below (F5.b.mono hN)).sent.spot (by omega)
          subst hob
          obtain ⟨hbN, r, ⟨dv, rfl, hdv⟩, hc⟩ := hcells k m hpa
          obtain ⟨od, cd, rfl, -⟩ := hdv.shape
          have c2 := hc 2 _ rfl
          have HDV := hid hdv
          clear hpa hcells hc hdv
          go_upto_region 12 with fail
          refine sndrR12 (hid F5.r0) (hid F5.r1) hlt (by have := F5.b.size; omega) (hid c2) (bb := decide (m.dig = digPk p)) (dig := digPk p) (fun W hW => HDG.out W (F5.go hW).b HWK.out) (fun W v hW ho => equal_any m.dig (digPk p) _ v N W.heap.size W (HDV.out.below (hW.mono (Nat.le_trans hN F5.b.size))) ho.bytes) _ (hid ?_)
          intro σ w6 hb6 e10
          have F6 := F5.go hb6
          have HFV6 := hid (HFV5.out.below (hb6.mono (Nat.le_trans hN F5.b.size)))
          rw [e10]
          clear e10 hb6 c2 HDV F5 HFV5
          by_cases h3 : m.dig = digPk p
          · have HL := hid (HE4.out.trans (if_neg (by simp [h3])))
            rw [show decide (m.dig = digPk p) = true from decide_eq_true h3]
            clear h3
            go_wp2_with (first | refine F6.load 3 rfl rfl rfl rfl structEnd ?_ | (refine F6.store 2 rfl rfl rfl rfl rfl structEnd rfl (by simp [Value.oneCell']) ?_; intro wz FZ OZ))
            exact ret_ct Tryz.results49 rfl FZ.r2 structEnd rfl ⟨FZ.b, _, by rw [HL.out]; rfl, HOK.out _ _ HL.out ⟨ka, ma, rfl, HFV6.out.below (OZ.down (Below.refl N _) (by omega))⟩⟩
          · have HL := hid (HE4.out.trans (if_pos h3))
            rw [show decide (m.dig = digPk p) = false from decide_eq_false h3]
            clear h3
            go_wp2_with (refine F6.store 2 rfl rfl rfl rfl rfl structEnd rfl (by simp [Value.oneCell']) ?_; intro wz FZ OZ)
            exact ret_ct Tryz.results49 rfl FZ.r2 structEnd rfl ⟨FZ.b, _, by rw [HL.out]; rfl, HERR.out _ (by rw [HL.out]; decide)⟩
      · have HL := hid (HE2.out.trans (if_pos h1))
        have e1 : (c.ochan != p.dst) = true := by simpa using h1
        clear h1
        go_wp2_with (refine F4.store 2 rfl rfl rfl rfl rfl structEnd rfl (by simp [Value.oneCell']) ?_; intro wz FZ OZ)
        exact ret_ct Tryz.results49 rfl FZ.r2 structEnd rfl ⟨FZ.b, _, by rw [HL.out]; rfl, HERR.out _ (by rw [HL.out]; decide)⟩
    · have HL := hid (HE1.out.trans (if_pos hz))
      have e0 : (cendL s p.src [3, 4] != 0) = true := by simpa using hz
      have HZ := hid hz
      clear hz
      go_wp2_with (refine F4.store 2 rfl rfl rfl rfl rfl structEnd rfl (by simp [Value.oneCell']) ?_; intro wz FZ OZ)
      exact ret_ct Tryz.results49 rfl FZ.r2 structEnd rfl ⟨FZ.b, _, by rw [HL.out]; rfl, HERR.out _ (by rw [HL.out]; exact HZ.out)⟩
  · have HL := hid (HE.out.trans (if_pos hz))
    have e0 : (wrongPk p != 0) = true := by simpa using hz
    have HZ := hid hz
    clear hz
    go_wp2_with (refine F1.store 2 rfl rfl rfl rfl rfl structEnd rfl (by simp [Value.oneCell']) ?_; intro wz FZ OZ)
    exact ret_ct Tryz.results49 rfl FZ.r2 structEnd rfl ⟨FZ.b, _, by rw [HL.out]; rfl, HERR.out _ (by rw [HL.out]; exact HZ.out)⟩
end Go.Proofs.YtclhcjiblfokaaaGreatDoor
namespace Go.Proofs.YtclhcjiblfokaaaGreatDoor
open Go.RowKit

/-- what is shown, with its slices in the open, and what reads as its proof and its gap -/
theorem ShV.both {w : World} {N : Nat} {v : Value} {h : Sh} (hv : ShV w N v h) : ∃ q1 e1 q2 e2 q3 e3 r1 s1 r2 s2 r3 s3 r4 s4 r5 s5 r6 s6,
    v = .agg #[.int .i64 h.height, .int .i64 h.prf.index, .int .i64 h.prf.size, .slice q1 h.prf.key.length e1, .slice q2 h.prf.val.length e2, .slice q3 h.prf.path.length e3, .bool h.gap.hasL, .bool h.gap.hasR, .int .i64 h.gap.left.index, .int .i64 h.gap.left.size, .slice r1 h.gap.left.key.length s1, .slice r2 h.gap.left.val.length s2, .slice r3 h.gap.left.path.length s3, .int .i64 h.gap.right.index, .int .i64 h.gap.right.size, .slice r4 h.gap.right.key.length s4, .slice r5 h.gap.right.val.length s5, .slice r6 h.gap.right.path.length s6] ∧
    PrfV w N (.agg #[.int .i64 h.prf.index, .int .i64 h.prf.size, .slice q1 h.prf.key.length e1, .slice q2 h.prf.val.length e2, .slice q3 h.prf.path.length e3]) h.prf ∧
    GpV w N (.agg #[.bool h.gap.hasL, .bool h.gap.hasR, .int .i64 h.gap.left.index, .int .i64 h.gap.left.size, .slice r1 h.gap.left.key.length s1, .slice r2 h.gap.left.val.length s2, .slice r3 h.gap.left.path.length s3, .int .i64 h.gap.right.index, .int .i64 h.gap.right.size, .slice r4 h.gap.right.key.length s4, .slice r5 h.gap.right.val.length s5, .slice r6 h.gap.right.path.length s6]) h.gap := by
  obtain ⟨x1, x2, x3, k1, v1, t1, k2, v2, t2, rfl, hp, hq⟩ := hv
  have hp' := hp
  have hq' := hq
  obtain ⟨a1, a2, a3, ea, b1, b2, b3⟩ := hp
  obtain ⟨c1, c2, c3, c4, c5, c6, eb, d1, d2, d3, d4, d5, d6⟩ := hq
  simp at ea eb
  obtain ⟨rfl, rfl, rfl⟩ := ea
  obtain ⟨rfl, rfl, rfl, rfl, rfl, rfl⟩ := eb
  obtain ⟨q1, e1, rfl, -⟩ := b1.shape
  obtain ⟨q2, e2, rfl, -⟩ := b2.shape
  obtain ⟨q3, e3, rfl, -⟩ := b3.shape
  obtain ⟨r1, s1, rfl, -⟩ := d1.shape
  obtain ⟨r2, s2, rfl, -⟩ := d2.shape
  obtain ⟨r3, s3, rfl, -⟩ := d3.shape
  obtain ⟨r4, s4, rfl, -⟩ := d4.shape
  obtain ⟨r5, s5, rfl, -⟩ := d5.shape
  obtain ⟨r6, s6, rfl, -⟩ := d6.shape
  exact ⟨_, _, _, _, _, _, _, _, _, _, _, _, _, _, _, _, _, _, rfl, hp', hq'⟩
set_option maxRecDepth 100000 in
set_option maxHeartbeats 4000000 in
theorem doneR7 {y0 y1 y2 y4 y8 y11 y12 y13 y14 y15 y16 y17 y18 y19 y20 y21 y22 y23 y24 y25 y26 y27 y28 y29 y30 y31 y32 y33 y34 y35 y36 z10 z37 z38 z39 z40 z41 z42 z43 z44 z45 z46 z47 z48 z49 z50 z51 z52 : Value} {x0 x1 x2 x3 x4 x5 x6 x7 x8 x9 e0 e1 e2 e3 e4 e5 e6 e7 e8 e9 e10 u0 u1 u2 u3 u4 u5 u6 u7 u8 u9 u10 u11 u12 u13 u14 u15 u16 u17 p0 p3 p4 : Value} {gs ge gp gh : Nat} {a q z : Int} {key val : List (BitVec 8)} {oa : Option Addr} {na ca : Nat} {w : World} (hgs : Hid (Row w gs 28 [x0, x1, x2, x3, x4, x5, x6, x7, x8, x9])) (hge : Hid (Row w ge 81 [e0, e1, e2, e3, e4, e5, e6, e7, e8, e9, e10])) (hgp : Hid (Row w gp 31 [p0, .int .i64 a, .int .i64 q, p3, p4])) (hgh : Hid (Row w gh 38 [u0, u1, u2, u3, u4, u5, u6, u7, u8, u9, u10, u11, u12, u13, u14, u15, u16, u17])) (hck : ∀ W, Below w.heap.size w W → Calls Tryz.prog 102 #[.int .i64 a, .int .i64 q] W fun e w' => ∃ v, e = .returned v ∧ Bytes w' w'.heap.size v key ∧ Below W.heap.size W w') (hcv : ∀ W, Below w.heap.size w W → Calls Tryz.prog 27 #[.slice oa na ca] W fun e w' => ∃ v, e = .returned v ∧ Bytes w' w'.heap.size v val ∧ Below W.heap.size W w') (hcm : ∀ W kv vv, Below w.heap.size w W → Bytes W W.heap.size kv key → Bytes W W.heap.size vv val → Calls Tryz.prog 45 #[.agg #[e7, e8, e9, e10], x2, u0, kv, vv, .agg #[u1, u2, u3, u4, u5]] W fun e w' => e = .returned (.int .i64 z) ∧ Below W.heap.size W w') (Q : Exit → Act → World → Prop)
    (hQ : Hid (∀ (σ : Nat → Value) (w' : World), Below w.heap.size w w' → σ 16 = .int .i64 z → Q .normal ⟨#[y0, y1, y2, .slice oa na ca, y4, .pointer (some ⟨gs, 0, none⟩), .pointer (some ⟨ge, 0, none⟩), .pointer (some ⟨gp, 0, none⟩), y8, .pointer (some ⟨gh, 0, none⟩), σ 16, y11, y12, y13, y14, y15, y16, y17, y18, y19, y20, y21, y22, y23, y24, y25, y26, y27, y28, y29, y30, y31, y32, y33, y34, y35, y36, σ 0, σ 1, σ 2, σ 3, σ 4, σ 5, σ 6, σ 7, σ 8, σ 9, σ 10, σ 11, σ 12, σ 13, σ 14, σ 15], []⟩ w')) :
    Code.wp Tryz.prog (.region 7 ((Tryz.f50.body.bind (regOf 7)).getD #[]) true) Q ⟨#[y0, y1, y2, .slice oa na ca, y4, .pointer (some ⟨gs, 0, none⟩), .pointer (some ⟨ge, 0, none⟩), .pointer (some ⟨gp, 0, none⟩), y8, .pointer (some ⟨gh, 0, none⟩), z10, y11, y12, y13, y14, y15, y16, y17, y18, y19, y20, y21, y22, y23, y24, y25, y26, y27, y28, y29, y30, y31, y32, y33, y34, y35, y36, z37, z38, z39, z40, z41, z42, z43, z44, z45, z46, z47, z48, z49, z50, z51, z52], []⟩ w := by
  conv => arg 2; arg 2; whnf
  conv => arg 4; dsimp only
  refine region_grows (by kernel_rfl) (fun σ => #[y0, y1, y2, .slice oa na ca, y4, .pointer (some ⟨gs, 0, none⟩), .pointer (some ⟨ge, 0, none⟩), .pointer (some ⟨gp, 0, none⟩), y8, .pointer (some ⟨gh, 0, none⟩), σ 16, y11, y12, y13, y14, y15, y16, y17, y18, y19, y20, y21, y22, y23, y24, y25, y26, y27, y28, y29, y30, y31, y32, y33, y34, y35, y36, σ 0, σ 1, σ 2, σ 3, σ 4, σ 5, σ 6, σ 7, σ 8, σ 9, σ 10, σ 11, σ 12, σ 13, σ 14, σ 15]) (fun i => ([z37, z38, z39, z40, z41, z42, z43, z44, z45, z46, z47, z48, z49, z50, z51, z52, z10] : List Value).getD i undef) rfl (fun i X W => match i with
    | 0 => X = .pointer (some ⟨ge, 7, none⟩)
    | 1 => X = .agg #[e7, e8, e9, e10]
    | 2 => X = .pointer (some ⟨gs, 2, none⟩)
    | 3 => X = x2
    | 4 => X = .pointer (some ⟨gh, 0, none⟩)
    | 5 => X = u0
    | 6 => X = .pointer (some ⟨gp, 1, none⟩)
    | 7 => X = .int .i64 a
    | 8 => X = .pointer (some ⟨gp, 2, none⟩)
    | 9 => X = .int .i64 q
    | 10 => Bytes W W.heap.size X key
    | 11 => X = .slice oa na ca
    | 12 => Bytes W W.heap.size X val
    | 13 => X = .pointer (some ⟨gh, 1, none⟩)
    | 14 => X = .agg #[u1, u2, u3, u4, u5]
    | 15 => X = .int .i64 z
    | 16 => X = .int .i64 z
    | _ => True) ?_ (by kernel_rfl) ?_ ?_
  · intro i X W W' HB H
    iterate 17 (obtain _ | i := i; first | exact H | exact (H.below HB).mono HB.size)
    exact H
  · refine ⟨?_, ?_, ?_, ?_, ?_, ?_, ?_, ?_, ?_, ?_, ?_, ?_, ?_, ?_, ?_, ?_, ?_, trivial⟩
    all_goals (intro σ W HJ hdep; simp [Region.binds] at hdep; have HJ := hid HJ; obtain ⟨gsk0, gsk1, gsk2, gsk3, gsk4, gsk5, gsk6, gsk7, gsk8, gsk9⟩ := (hgs.out.below HJ.out hgs.out.lt).k10; obtain ⟨gek0, gek1, gek2, gek3, gek4, gek5, gek6, gek7, gek8, gek9, gek10⟩ := (hge.out.below HJ.out hge.out.lt).k11; obtain ⟨gpk0, gpk1, gpk2, gpk3, gpk4⟩ := (hgp.out.below HJ.out hgp.out.lt).k5; obtain ⟨ghk0, ghk1, ghk2, ghk3, ghk4, ghk5, ghk6, ghk7, ghk8, ghk9, ghk10, ghk11, ghk12, ghk13, ghk14, ghk15, ghk16, ghk17⟩ := (hgh.out.below HJ.out hgh.out.lt).k18)
    · refine wpOp_plain rfl rfl ?_; go_simp; exact Left.mk0 _ (by first | rfl | simp [updF, *]) HJ.out rfl
    · refine wpOp_plain rfl rfl ?_; go_simp; exact Left.mk0 _ (by first | rfl | simp [updF, *]) HJ.out rfl
    · refine wpOp_plain rfl rfl ?_; go_simp; exact Left.mk0 _ (by first | rfl | simp [updF, *]) HJ.out rfl
    · refine wpOp_plain rfl rfl ?_; go_simp; exact Left.mk0 _ (by first | rfl | simp [updF, *]) HJ.out rfl
    · refine wpOp_plain rfl rfl ?_; go_simp; exact Left.mk0 _ (by first | rfl | simp [updF, *]) HJ.out rfl
    · refine wpOp_plain rfl rfl ?_; go_simp; exact Left.mk0 _ (by first | rfl | simp [updF, *]) HJ.out rfl
    · refine wpOp_plain rfl rfl ?_; go_simp; exact Left.mk0 _ (by first | rfl | simp [updF, *]) HJ.out rfl
    · refine wpOp_plain rfl rfl ?_; go_simp; exact Left.mk0 _ (by first | rfl | simp [updF, *]) HJ.out rfl
    · refine wpOp_plain rfl rfl ?_; go_simp; exact Left.mk0 _ (by first | rfl | simp [updF, *]) HJ.out rfl
    · refine wpOp_plain rfl rfl ?_; go_simp; exact Left.mk0 _ (by first | rfl | simp [updF, *]) HJ.out rfl
    · have HC := hid (hck W HJ.out); refine wpOp_plain rfl rfl ?_; go_simp; refine HC.out.mono ?_; rintro e w2 ⟨v, rfl, hv, hb⟩; exact Left.mk v (by first | rfl | simp [updF, *]) hb HJ.out hv
    · refine wpOp_plain rfl rfl ?_; go_simp; exact Left.mk0 _ (by first | rfl | simp [updF, *]) HJ.out rfl
    · have HC := hid (hcv W HJ.out); refine wpOp_plain rfl rfl ?_; go_simp; refine HC.out.mono ?_; rintro e w2 ⟨v, rfl, hv, hb⟩; exact Left.mk v (by first | rfl | simp [updF, *]) hb HJ.out hv
    · refine wpOp_plain rfl rfl ?_; go_simp; exact Left.mk0 _ (by first | rfl | simp [updF, *]) HJ.out rfl
    · refine wpOp_plain rfl rfl ?_; go_simp; exact Left.mk0 _ (by first | rfl | simp [updF, *]) HJ.out rfl
    · obtain ⟨d1, d3, d5, d10, d12, d14⟩ := hdep; have HC := hid (hcm W _ _ HJ.out d10 d12); clear d10 d12; refine wpOp_plain rfl rfl ?_; go_simp; refine HC.out.mono ?_; rintro e w2 ⟨rfl, hb⟩; exact Left.mk _ (by first | rfl | simp [updF, *]) hb HJ.out rfl
    · refine wpOp_plain rfl rfl ?_; go_simp; exact Left.mk0 _ (by first | rfl | simp [updF, *]) HJ.out rfl
  · intro σ w' hb hg
    exact hQ.out σ w' hb (hg 16 (by decide))
set_option maxRecDepth 100000 in
set_option maxHeartbeats 4000000 in
theorem lateR7 {y0 y1 y2 y4 y8 y11 y12 y13 y14 y15 y16 y17 y18 y19 y20 y21 y22 y23 y24 y25 y26 y27 y28 y29 y30 y31 y32 y33 y34 y35 y36 y37 y38 y39 y40 y41 y42 y43 y44 z10 z45 z46 z47 z48 z49 z50 z51 z52 z53 z54 z55 z56 z57 z58 : Value} {x0 x1 x2 x3 x4 x5 x6 x7 x8 x9 e0 e1 e2 e3 e4 e5 e6 e7 e8 e9 e10 u0 u1 u2 u3 u4 u5 u6 u7 u8 u9 u10 u11 u12 u13 u14 u15 u16 u17 p0 p3 p4 : Value} {gs ge gp gh : Nat} {a q z : Int} {key val : List (BitVec 8)} {nx : Int} {w : World} (hgs : Hid (Row w gs 28 [x0, x1, x2, x3, x4, x5, x6, x7, x8, x9])) (hge : Hid (Row w ge 81 [e0, e1, e2, e3, e4, e5, e6, e7, e8, e9, e10])) (hgp : Hid (Row w gp 31 [p0, .int .i64 a, .int .i64 q, p3, p4])) (hgh : Hid (Row w gh 38 [u0, u1, u2, u3, u4, u5, u6, u7, u8, u9, u10, u11, u12, u13, u14, u15, u16, u17])) (hck : ∀ W, Below w.heap.size w W → Calls Tryz.prog 110 #[.int .i64 a] W fun e w' => ∃ v, e = .returned v ∧ Bytes w' w'.heap.size v key ∧ Below W.heap.size W w') (hcv : ∀ W, Below w.heap.size w W → Calls Tryz.prog 111 #[.int .i64 nx] W fun e w' => ∃ v, e = .returned v ∧ Bytes w' w'.heap.size v val ∧ Below W.heap.size W w') (hcm : ∀ W kv vv, Below w.heap.size w W → Bytes W W.heap.size kv key → Bytes W W.heap.size vv val → Calls Tryz.prog 45 #[.agg #[e7, e8, e9, e10], x2, u0, kv, vv, .agg #[u1, u2, u3, u4, u5]] W fun e w' => e = .returned (.int .i64 z) ∧ Below W.heap.size W w') (Q : Exit → Act → World → Prop)
    (hQ : Hid (∀ (σ : Nat → Value) (w' : World), Below w.heap.size w w' → σ 14 = .int .i64 z → Q .normal ⟨#[y0, y1, y2, .int .i64 nx, y4, .pointer (some ⟨gs, 0, none⟩), .pointer (some ⟨ge, 0, none⟩), .pointer (some ⟨gp, 0, none⟩), y8, .pointer (some ⟨gh, 0, none⟩), σ 14, y11, y12, y13, y14, y15, y16, y17, y18, y19, y20, y21, y22, y23, y24, y25, y26, y27, y28, y29, y30, y31, y32, y33, y34, y35, y36, y37, y38, y39, y40, y41, y42, y43, y44, σ 0, σ 1, σ 2, σ 3, σ 4, σ 5, σ 6, σ 7, σ 8, σ 9, σ 10, σ 11, σ 12, σ 13], []⟩ w')) :
    Code.wp Tryz.prog (.region 7 ((Tryz.f55.body.bind (regOf 7)).getD #[]) true) Q ⟨#[y0, y1, y2, .int .i64 nx, y4, .pointer (some ⟨gs, 0, none⟩), .pointer (some ⟨ge, 0, none⟩), .pointer (some ⟨gp, 0, none⟩), y8, .pointer (some ⟨gh, 0, none⟩), z10, y11, y12, y13, y14, y15, y16, y17, y18, y19, y20, y21, y22, y23, y24, y25, y26, y27, y28, y29, y30, y31, y32, y33, y34, y35, y36, y37, y38, y39, y40, y41, y42, y43, y44, z45, z46, z47, z48, z49, z50, z51, z52, z53, z54, z55, z56, z57, z58], []⟩ w := by
  conv => arg 2; arg 2; whnf
  conv => arg 4; dsimp only
  refine region_grows (by kernel_rfl) (fun σ => #[y0, y1, y2, .int .i64 nx, y4, .pointer (some ⟨gs, 0, none⟩), .pointer (some ⟨ge, 0, none⟩), .pointer (some ⟨gp, 0, none⟩), y8, .pointer (some ⟨gh, 0, none⟩), σ 14, y11, y12, y13, y14, y15, y16, y17, y18, y19, y20, y21, y22, y23, y24, y25, y26, y27, y28, y29, y30, y31, y32, y33, y34, y35, y36, y37, y38, y39, y40, y41, y42, y43, y44, σ 0, σ 1, σ 2, σ 3, σ 4, σ 5, σ 6, σ 7, σ 8, σ 9, σ 10, σ 11, σ 12, σ 13]) (fun i => ([z45, z46, z47, z48, z49, z50, z51, z52, z53, z54, z55, z56, z57, z58, z10] : List Value).getD i undef) rfl (fun i X W => match i with
    | 0 => X = .pointer (some ⟨ge, 7, none⟩)
    | 1 => X = .agg #[e7, e8, e9, e10]
    | 2 => X = .pointer (some ⟨gs, 2, none⟩)
    | 3 => X = x2
    | 4 => X = .pointer (some ⟨gh, 0, none⟩)
    | 5 => X = u0
    | 6 => X = .pointer (some ⟨gp, 1, none⟩)
    | 7 => X = .int .i64 a
    | 8 => Bytes W W.heap.size X key
    | 9 => X = .int .i64 nx
    | 10 => Bytes W W.heap.size X val
    | 11 => X = .pointer (some ⟨gh, 1, none⟩)
    | 12 => X = .agg #[u1, u2, u3, u4, u5]
    | 13 => X = .int .i64 z
    | 14 => X = .int .i64 z
    | _ => True) ?_ (by kernel_rfl) ?_ ?_
  · intro i X W W' HB H
    iterate 15 (obtain _ | i := i; first | exact H | exact (H.below HB).mono HB.size)
    exact H
  · refine ⟨?_, ?_, ?_, ?_, ?_, ?_, ?_, ?_, ?_, ?_, ?_, ?_, ?_, ?_, ?_, trivial⟩
    all_goals (intro σ W HJ hdep; simp [Region.binds] at hdep; have HJ := hid HJ; obtain ⟨gsk0, gsk1, gsk2, gsk3, gsk4, gsk5, gsk6, gsk7, gsk8, gsk9⟩ := (hgs.out.below HJ.out hgs.out.lt).k10; obtain ⟨gek0, gek1, gek2, gek3, gek4, gek5, gek6, gek7, gek8, gek9, gek10⟩ := (hge.out.below HJ.out hge.out.lt).k11; obtain ⟨gpk0, gpk1, gpk2, gpk3, gpk4⟩ := (hgp.out.below HJ.out hgp.out.lt).k5; obtain ⟨ghk0, ghk1, ghk2, ghk3, ghk4, ghk5, ghk6, ghk7, ghk8, ghk9, ghk10, ghk11, ghk12, ghk13, ghk14, ghk15, ghk16, ghk17⟩ := (hgh.out.below HJ.out hgh.out.lt).k18)
    · refine wpOp_plain rfl rfl ?_; go_simp; exact Left.mk0 _ (by first | rfl | simp [updF, *]) HJ.out rfl
    · refine wpOp_plain rfl rfl ?_; go_simp; exact Left.mk0 _ (by first | rfl | simp [updF, *]) HJ.out rfl
    · refine wpOp_plain rfl rfl ?_; go_simp; exact Left.mk0 _ (by first | rfl | simp [updF, *]) HJ.out rfl
    · refine wpOp_plain rfl rfl ?_; go_simp; exact Left.mk0 _ (by first | rfl | simp [updF, *]) HJ.out rfl
    · refine wpOp_plain rfl rfl ?_; go_simp; exact Left.mk0 _ (by first | rfl | simp [updF, *]) HJ.out rfl
    · refine wpOp_plain rfl rfl ?_; go_simp; exact Left.mk0 _ (by first | rfl | simp [updF, *]) HJ.out rfl
    · refine wpOp_plain rfl rfl ?_; go_simp; exact Left.mk0 _ (by first | rfl | simp [updF, *]) HJ.out rfl
    · refine wpOp_plain rfl rfl ?_; go_simp; exact Left.mk0 _ (by first | rfl | simp [updF, *]) HJ.out rfl
    · have HC := hid (hck W HJ.out); refine wpOp_plain rfl rfl ?_; go_simp; refine HC.out.mono ?_; rintro e w2 ⟨v, rfl, hv, hb⟩; exact Left.mk v (by first | rfl | simp [updF, *]) hb HJ.out hv
    · refine wpOp_plain rfl rfl ?_; go_simp; exact Left.mk0 _ (by first | rfl | simp [updF, *]) HJ.out rfl
    · have HC := hid (hcv W HJ.out); refine wpOp_plain rfl rfl ?_; go_simp; refine HC.out.mono ?_; rintro e w2 ⟨v, rfl, hv, hb⟩; exact Left.mk v (by first | rfl | simp [updF, *]) hb HJ.out hv
    · refine wpOp_plain rfl rfl ?_; go_simp; exact Left.mk0 _ (by first | rfl | simp [updF, *]) HJ.out rfl
    · refine wpOp_plain rfl rfl ?_; go_simp; exact Left.mk0 _ (by first | rfl | simp [updF, *]) HJ.out rfl
    · obtain ⟨d1, d3, d5, d8, d10, d12⟩ := hdep; have HC := hid (hcm W _ _ HJ.out d8 d10); clear d8 d10; refine wpOp_plain rfl rfl ?_; go_simp; refine HC.out.mono ?_; rintro e w2 ⟨rfl, hb⟩; exact Left.mk _ (by first | rfl | simp [updF, *]) hb HJ.out rfl
    · refine wpOp_plain rfl rfl ?_; go_simp; exact Left.mk0 _ (by first | rfl | simp [updF, *]) HJ.out rfl
  · intro σ w' hb hg
    exact hQ.out σ w' hb (hg 14 (by decide))
set_option maxRecDepth 100000 in
set_option maxHeartbeats 4000000 in
theorem lateR4 {y0 y1 y2 y3 y4 y8 y11 y12 y13 y14 y15 y16 y17 y18 y19 y20 y21 y36 y37 y38 y39 y40 y41 y42 y43 y44 y45 y46 y47 y48 y49 y50 y51 y52 y53 y54 y55 y56 y57 y58 z10 z22 z23 z24 z25 z26 z27 z28 z29 z30 z31 z32 z33 z34 z35 : Value} {x0 x1 x2 x3 x4 x5 x6 x7 x8 x9 e0 e1 e2 e3 e4 e5 e6 e7 e8 e9 e10 u0 u1 u2 u3 u4 u5 u6 u7 u8 u9 u10 u11 u12 u13 u14 u15 u16 u17 p0 p3 p4 : Value} {gs ge gp gh : Nat} {a q z : Int} {key : List (BitVec 8)} {w : World} (hgs : Hid (Row w gs 28 [x0, x1, x2, x3, x4, x5, x6, x7, x8, x9])) (hge : Hid (Row w ge 81 [e0, e1, e2, e3, e4, e5, e6, e7, e8, e9, e10])) (hgp : Hid (Row w gp 31 [p0, .int .i64 a, .int .i64 q, p3, p4])) (hgh : Hid (Row w gh 38 [u0, u1, u2, u3, u4, u5, u6, u7, u8, u9, u10, u11, u12, u13, u14, u15, u16, u17])) (hck : ∀ W, Below w.heap.size w W → Calls Tryz.prog 109 #[.int .i64 a, .int .i64 q] W fun e w' => ∃ v, e = .returned v ∧ Bytes w' w'.heap.size v key ∧ Below W.heap.size W w') (hcm : ∀ W kv, Below w.heap.size w W → Bytes W W.heap.size kv key → Calls Tryz.prog 108 #[.agg #[e7, e8, e9, e10], x2, u0, kv, .agg #[u6, u7, u8, u9, u10, u11, u12, u13, u14, u15, u16, u17]] W fun e w' => e = .returned (.int .i64 z) ∧ Below W.heap.size W w') (Q : Exit → Act → World → Prop)
    (hQ : Hid (∀ (σ : Nat → Value) (w' : World), Below w.heap.size w w' → σ 14 = .int .i64 z → Q .normal ⟨#[y0, y1, y2, y3, y4, .pointer (some ⟨gs, 0, none⟩), .pointer (some ⟨ge, 0, none⟩), .pointer (some ⟨gp, 0, none⟩), y8, .pointer (some ⟨gh, 0, none⟩), σ 14, y11, y12, y13, y14, y15, y16, y17, y18, y19, y20, y21, σ 0, σ 1, σ 2, σ 3, σ 4, σ 5, σ 6, σ 7, σ 8, σ 9, σ 10, σ 11, σ 12, σ 13, y36, y37, y38, y39, y40, y41, y42, y43, y44, y45, y46, y47, y48, y49, y50, y51, y52, y53, y54, y55, y56, y57, y58], []⟩ w')) :
    Code.wp Tryz.prog (.region 4 ((Tryz.f55.body.bind (regOf 4)).getD #[]) true) Q ⟨#[y0, y1, y2, y3, y4, .pointer (some ⟨gs, 0, none⟩), .pointer (some ⟨ge, 0, none⟩), .pointer (some ⟨gp, 0, none⟩), y8, .pointer (some ⟨gh, 0, none⟩), z10, y11, y12, y13, y14, y15, y16, y17, y18, y19, y20, y21, z22, z23, z24, z25, z26, z27, z28, z29, z30, z31, z32, z33, z34, z35, y36, y37, y38, y39, y40, y41, y42, y43, y44, y45, y46, y47, y48, y49, y50, y51, y52, y53, y54, y55, y56, y57, y58], []⟩ w := by
  conv => arg 2; arg 2; whnf
  conv => arg 4; dsimp only
  refine region_grows (by kernel_rfl) (fun σ => #[y0, y1, y2, y3, y4, .pointer (some ⟨gs, 0, none⟩), .pointer (some ⟨ge, 0, none⟩), .pointer (some ⟨gp, 0, none⟩), y8, .pointer (some ⟨gh, 0, none⟩), σ 14, y11, y12, y13, y14, y15, y16, y17, y18, y19, y20, y21, σ 0, σ 1, σ 2, σ 3, σ 4, σ 5, σ 6, σ 7, σ 8, σ 9, σ 10, σ 11, σ 12, σ 13, y36, y37, y38, y39, y40, y41, y42, y43, y44, y45, y46, y47, y48, y49, y50, y51, y52, y53, y54, y55, y56, y57, y58]) (fun i => ([z22, z23, z24, z25, z26, z27, z28, z29, z30, z31, z32, z33, z34, z35, z10] : List Value).getD i undef) rfl (fun i X W => match i with
    | 0 => X = .pointer (some ⟨ge, 7, none⟩)
    | 1 => X = .agg #[e7, e8, e9, e10]
    | 2 => X = .pointer (some ⟨gs, 2, none⟩)
    | 3 => X = x2
    | 4 => X = .pointer (some ⟨gh, 0, none⟩)
    | 5 => X = u0
    | 6 => X = .pointer (some ⟨gp, 1, none⟩)
    | 7 => X = .int .i64 a
    | 8 => X = .pointer (some ⟨gp, 2, none⟩)
    | 9 => X = .int .i64 q
    | 10 => Bytes W W.heap.size X key
    | 11 => X = .pointer (some ⟨gh, 6, none⟩)
    | 12 => X = .agg #[u6, u7, u8, u9, u10, u11, u12, u13, u14, u15, u16, u17]
    | 13 => X = .int .i64 z
    | 14 => X = .int .i64 z
    | _ => True) ?_ (by kernel_rfl) ?_ ?_
  · intro i X W W' HB H
    iterate 15 (obtain _ | i := i; first | exact H | exact (H.below HB).mono HB.size)
    exact H
  · refine ⟨?_, ?_, ?_, ?_, ?_, ?_, ?_, ?_, ?_, ?_, ?_, ?_, ?_, ?_, ?_, trivial⟩
    all_goals (intro σ W HJ hdep; simp [Region.binds] at hdep; have HJ := hid HJ; obtain ⟨gsk0, gsk1, gsk2, gsk3, gsk4, gsk5, gsk6, gsk7, gsk8, gsk9⟩ := (hgs.out.below HJ.out hgs.out.lt).k10; obtain ⟨gek0, gek1, gek2, gek3, gek4, gek5, gek6, gek7, gek8, gek9, gek10⟩ := (hge.out.below HJ.out hge.out.lt).k11; obtain ⟨gpk0, gpk1, gpk2, gpk3, gpk4⟩ := (hgp.out.below HJ.out hgp.out.lt).k5; obtain ⟨ghk0, ghk1, ghk2, ghk3, ghk4, ghk5, ghk6, ghk7, ghk8, ghk9, ghk10, ghk11, ghk12, ghk13, ghk14, ghk15, ghk16, ghk17⟩ := (hgh.out.below HJ.out hgh.out.lt).k18)
    · refine wpOp_plain rfl rfl ?_; go_simp; exact Left.mk0 _ (by first | rfl | simp [updF, *]) HJ.out rfl
    · refine wpOp_plain rfl rfl ?_; go_simp; exact Left.mk0 _ (by first | rfl | simp [updF, *]) HJ.out rfl
    · refine wpOp_plain rfl rfl ?_; go_simp; exact Left.mk0 _ (by first | rfl | simp [updF, *]) HJ.out rfl
    · refine wpOp_plain rfl rfl ?_; go_simp; exact Left.mk0 _ (by first | rfl | simp [updF, *]) HJ.out rfl
    · refine wpOp_plain rfl rfl ?_; go_simp; exact Left.mk0 _ (by first | rfl | simp [updF, *]) HJ.out rfl
    · refine wpOp_plain rfl rfl ?_; go_simp; exact Left.mk0 _ (by first | rfl | simp [updF, *]) HJ.out rfl
    · refine wpOp_plain rfl rfl ?_; go_simp; exact Left.mk0 _ (by first | rfl | simp [updF, *]) HJ.out rfl
    · refine wpOp_plain rfl rfl ?_; go_simp; exact Left.mk0 _ (by first | rfl | simp [updF, *]) HJ.out rfl
    · refine wpOp_plain rfl rfl ?_; go_simp; exact Left.mk0 _ (by first | rfl | simp [updF, *]) HJ.out rfl
    · refine wpOp_plain rfl rfl ?_; go_simp; exact Left.mk0 _ (by first | rfl | simp [updF, *]) HJ.out rfl
    · have HC := hid (hck W HJ.out); refine wpOp_plain rfl rfl ?_; go_simp; refine HC.out.mono ?_; rintro e w2 ⟨v, rfl, hv, hb⟩; exact Left.mk v (by first | rfl | simp [updF, *]) hb HJ.out hv
    · refine wpOp_plain rfl rfl ?_; go_simp; exact Left.mk0 _ (by first | rfl | simp [updF, *]) HJ.out rfl
    · refine wpOp_plain rfl rfl ?_; go_simp; exact Left.mk0 _ (by first | rfl | simp [updF, *]) HJ.out rfl
    · obtain ⟨d1, d3, d5, d10, d12⟩ := hdep; have HC := hid (hcm W _ HJ.out d10); clear d10; refine wpOp_plain rfl rfl ?_; go_simp; refine HC.out.mono ?_; rintro e w2 ⟨rfl, hb⟩; exact Left.mk _ (by first | rfl | simp [updF, *]) hb HJ.out rfl
    · refine wpOp_plain rfl rfl ?_; go_simp; exact Left.mk0 _ (by first | rfl | simp [updF, *]) HJ.out rfl
  · intro σ w' hb hg
    exact hQ.out σ w' hb (hg 14 (by decide))
set_option maxRecDepth 100000 in
set_option maxHeartbeats 4000000 in
theorem done_any (s : St) (c : Ch) (f : Cl) (p : Pk) (ack : List (BitVec 8)) (h : Sh) (v ev pv av hv2 : Value) (N : Nat) (w : World) (z : Int) (hv : StV w N v s) (he : EndV w N ev c f) (hp : PkV w N pv p) (ha : Bytes w N av ack) (hh : ShV w N hv2 h) (hN : N ≤ w.heap.size) (hff : f.fits) (hhf : h.fits) (hal : ack.length ≤ 140737488351232) (htab : tableAt w) (hpow : powAt w) (hw : wrongPk p = 0) (hz : ShownN f s.time h.height (fun r => h.prf.key = keyL kwAck [p.dst.toNat, p.seq.toNat] ∧ h.prf.val = sha ack ∧ shownB r h.prf) z) :
    Calls Tryz.prog 50 #[v, ev, pv, av, hv2] w fun e w' => e = .returned (.int .i64 (doneN c p ack.length z)) ∧ Below w.heap.size w w' := by
  have HE := hid (show doneN c p ack.length z = if 150 < ack.length then 4 else if c.ordered = true ∧ p.seq ≠ c.ack then 12 else if c.ordered = true ∧ 1000000000000 ≤ c.ack then 5 else z from rfl)
  obtain ⟨o1, c1, o2, c2, o3, c3, o4, c4, o5, c5, o6, c6, o7, c7, rfl, hm⟩ := hv.open
  obtain ⟨ka, ma, rfl, hfv⟩ := he
  obtain ⟨odd, cdd, rfl, hdd⟩ := hp.open
  obtain ⟨q1, e1, q2, e2, q3, e3, r1, s1, r2, s2, r3, s3, r4, s4, r5, s5, r6, s6, rfl, hpv, hgv⟩ := hh.both
  have hpo := wrongPk_ok hw
  obtain ⟨oa, ca, rfl, -⟩ := ha.shape
  have HCK := hid (fun W (hx : Below w.heap.size w W) => ackKey_any p.dst p.seq (by omega) (by omega) W (hpow.below hx))
  have HCV := hid (fun W (hx : Below w.heap.size w W) => sum_own ack _ N W (Nat.le_trans hN hx.size) (ha.below (hx.mono hN)) (htab.past hx) (by omega))
  have HCM := hid (fun W kv vv (hx : Below w.heap.size w W) h4 h5 => MemberC.z memberC f s.time h.height (keyL kwAck [p.dst.toNat, p.seq.toNat]) (sha ack) h.prf _ kv vv _ W.heap.size W (htab.past hx) (Nat.le_refl _) ((hfv.below (hx.mono hN)).mono (Nat.le_trans hN hx.size)) h4 h5 ((hpv.below (hx.mono hN)).mono (Nat.le_trans hN hx.size)) hff (key_len2 (by decide) (by omega) (by omega)) (by rw [sha_length]; decide) hhf.1 hz)
  clear hv hm hp hdd hh hpv hgv hfv hff hhf htab hpow hw hz ha hpo
  go_enter Tryz.func50, Tryz.ntmps50
  go_upto_region 1 with fail
  refine fbox4 ?_
  intro w0 F hs
  clear hs
  have k1 := F.r1.k11.2.1
  have k6 := F.r1.k11.2.2.2.2.2.2.1
  have m2 := F.r2.k5.2.2.1
  by_cases h1 : 150 < ack.length
  · have HL := hid (HE.out.trans (if_pos h1))
    have e1 : decide ((150 : Int) < (ack.length : Int)) = true := by simp; omega
    clear h1
    go_wp2
    go_ret
    exact ⟨by rw [HL.out]; rfl, F.b⟩
  have HE1 := hid (HE.out.trans (if_neg h1))
  have e1' : decide ((150 : Int) < (ack.length : Int)) = false := by simp; omega
  clear h1 HE
  cases ho : c.ordered with
  | true =>
    rw [ho] at k1
    by_cases h2 : p.seq = c.ack
    · have e2 : (p.seq != c.ack) = false := by simpa using h2
      have HE2 := hid (HE1.out.trans (if_neg (by simp [h2])))
      by_cases h3 : 1000000000000 ≤ c.ack
      · have HL := hid (HE2.out.trans (if_pos ⟨ho, h3⟩))
        have e3 : decide ((1000000000000 : Int) ≤ c.ack) = true := by simpa using h3
        clear h2 h3
        go_wp2
        go_ret
        exact ⟨by rw [HL.out]; rfl, F.b⟩
      · have HL := hid (HE2.out.trans (if_neg (by omega)))
        have e3 : decide ((1000000000000 : Int) ≤ c.ack) = false := by simpa using h3
        clear h2 h3
        go_upto_region 7 with fail
        refine doneR7 (hid F.r0) (hid F.r1) (hid F.r2) (hid F.r3) (z := z) (fun W hW => (HCK.out W (F.go hW).b).mono ?_) (fun W hW => (HCV.out W (F.go hW).b).mono ?_) (fun W kv vv hW h4 h5 => HCM.out W kv vv (F.go hW).b h4 h5) _ (hid ?_)
        · rintro e w' ⟨u, rfl, ho, hb⟩
          exact ⟨u, rfl, ho.bytes, hb⟩
        · rintro e w' ⟨u, rfl, ho, hb⟩
          exact ⟨u, rfl, ho.bytes, hb⟩
        intro σ w1 hb1 e16
        have F1 := F.go hb1
        rw [e16]
        clear e16 hb1
        go_wp2
        go_ret
        exact ⟨by rw [HL.out]; rfl, F1.b⟩
    · have e2 : (p.seq != c.ack) = true := by simpa using h2
      have HL := hid (HE1.out.trans (if_pos ⟨ho, h2⟩))
      clear h2
      go_wp2
      go_ret
      exact ⟨by rw [HL.out]; rfl, F.b⟩
  | false =>
    rw [ho] at k1
    have HL := hid (HE1.out.trans ((if_neg (by simp [ho])).trans (if_neg (by simp [ho]))))
    go_upto_region 7 with fail
    refine doneR7 (hid F.r0) (hid F.r1) (hid F.r2) (hid F.r3) (z := z) (fun W hW => (HCK.out W (F.go hW).b).mono ?_) (fun W hW => (HCV.out W (F.go hW).b).mono ?_) (fun W kv vv hW h4 h5 => HCM.out W kv vv (F.go hW).b h4 h5) _ (hid ?_)
    · rintro e w' ⟨u, rfl, ho, hb⟩
      exact ⟨u, rfl, ho.bytes, hb⟩
    · rintro e w' ⟨u, rfl, ho, hb⟩
      exact ⟨u, rfl, ho.bytes, hb⟩
    intro σ w1 hb1 e16
    have F1 := F.go hb1
    rw [e16]
    clear e16 hb1
    go_wp2
    go_ret
    exact ⟨by rw [HL.out]; rfl, F1.b⟩
set_option maxRecDepth 100000 in
set_option maxHeartbeats 4000000 in
theorem late_any (s : St) (c : Ch) (f : Cl) (p : Pk) (next : Int) (h : Sh) (v ev pv hv2 : Value) (N : Nat) (w : World) (z : Int) (hv : StV w N v s) (he : EndV w N ev c f) (hp : PkV w N pv p) (hh : ShV w N hv2 h) (hN : N ≤ w.heap.size) (hff : f.fits) (hhf : h.fits) (htab : tableAt w) (hpow : powAt w) (hw : wrongPk p = 0) (hz : if c.ordered = true then ShownN f s.time h.height (fun r => h.prf.key = keyL kwNext [p.dst.toNat] ∧ h.prf.val = numsB [next] ∧ shownB r h.prf) z else ShownN f s.time h.height (fun r => absentB r (keyL kwGot [p.dst.toNat, p.seq.toNat]) h.gap) z) :
    Calls Tryz.prog 55 #[v, ev, pv, .int .i64 next, hv2] w fun e w' => e = .returned (.int .i64 (lateC c p next h.height z)) ∧ Below w.heap.size w w' := by
  have HE := hid (show lateC c p next h.height z = if h.height < p.tmo then 11 else if c.ordered = true ∧ (next < 1 ∨ p.seq < next) then 12 else z from rfl)
  obtain ⟨o1, c1, o2, c2, o3, c3, o4, c4, o5, c5, o6, c6, o7, c7, rfl, hm⟩ := hv.open
  obtain ⟨ka, ma, rfl, hfv⟩ := he
  obtain ⟨odd, cdd, rfl, hdd⟩ := hp.open
  obtain ⟨q1, e1, q2, e2, q3, e3, r1, s1, r2, s2, r3, s3, r4, s4, r5, s5, r6, s6, rfl, hpv, hgv⟩ := hh.both
  have hpo := wrongPk_ok hw
  have HCK := hid (fun W (hx : Below w.heap.size w W) => gotKey_any p.dst p.seq (by omega) (by omega) W (hpow.below hx))
  have HCK2 := hid (fun W (hx : Below w.heap.size w W) => nextKey_any p.dst (by omega) W (hpow.below hx))
  have HCM := hid (fun (ho : c.ordered = true) (hn : 0 ≤ next ∧ next ≤ 1000000000000) W kv vv (hx : Below w.heap.size w W) h4 h5 => MemberC.z memberC f s.time h.height (keyL kwNext [p.dst.toNat]) (numsB [next]) h.prf _ kv vv _ W.heap.size W (htab.past hx) (Nat.le_refl _) ((hfv.below (hx.mono hN)).mono (Nat.le_trans hN hx.size)) h4 h5 ((hpv.below (hx.mono hN)).mono (Nat.le_trans hN hx.size)) hff (key_len1 (by decide) (by omega)) (nums1_len next hn) hhf.1 (by rw [if_pos ho] at hz; exact hz))
  have HCG := hid (fun (ho : c.ordered = false) W kv (hx : Below w.heap.size w W) h4 => MissingC.z missingC f s.time h.height (keyL kwGot [p.dst.toNat, p.seq.toNat]) h.gap _ kv _ W.heap.size W (htab.past hx) (Nat.le_refl _) ((hfv.below (hx.mono hN)).mono (Nat.le_trans hN hx.size)) h4 ((hgv.below (hx.mono hN)).mono (Nat.le_trans hN hx.size)) hff (key_len2 (by decide) (by omega) (by omega)) hhf.2 (by rw [if_neg (by simp [ho])] at hz; exact hz))
  have HPS := hid hpo.2.2.1
  clear hv hm hp hdd hh hpv hgv hfv hff hhf htab hpow hw hz hpo
  go_enter Tryz.func55, Tryz.ntmps55
  go_upto_region 1 with fail
  refine fbox4 ?_
  intro w0 F hs
  clear hs
  have k1 := F.r1.k11.2.1
  have m2 := F.r2.k5.2.2.1
  have m4 := F.r2.k5.2.2.2.2
  have u0 := F.r3.k18.1
  by_cases h1 : h.height < p.tmo
  · have HL := hid (HE.out.trans (if_pos h1))
    have e1 : decide (h.height < p.tmo) = true := by simpa using h1
    clear h1
    go_wp2
    go_ret
    exact ⟨by rw [HL.out]; rfl, F.b⟩
  have HE1 := hid (HE.out.trans (if_neg h1))
  have e1' : decide (h.height < p.tmo) = false := by simpa using h1
  clear h1 HE
  cases ho : c.ordered with
  | true =>
    rw [ho] at k1
    by_cases h2 : next < 1
    · have HL := hid (HE1.out.trans (if_pos ⟨ho, .inl h2⟩))
      have e2 : decide (next < 1) = true := by simpa using h2
      clear h2
      go_wp2
      go_ret
      exact ⟨by rw [HL.out]; rfl, F.b⟩
    have e2 : decide (next < 1) = false := by simpa using h2
    by_cases h3 : p.seq < next
    · have HL := hid (HE1.out.trans (if_pos ⟨ho, .inr h3⟩))
      have e3 : decide (p.seq < next) = true := by simpa using h3
      clear h2 h3
      go_wp2
      go_ret
      exact ⟨by rw [HL.out]; rfl, F.b⟩
    have e3 : decide (p.seq < next) = false := by simpa using h3
    have HL := hid (HE1.out.trans (if_neg (by omega)))
    have HNX := hid (show 0 ≤ next ∧ next ≤ 1000000000000 by have := HPS.out; omega)
    clear h2 h3
    go_upto_region 7 with fail
    refine lateR7 (hid F.r0) (hid F.r1) (hid F.r2) (hid F.r3) (z := z) (fun W hW => (HCK2.out W (F.go hW).b).mono ?_) (fun W hW => (nextVal_any next HNX.out W).mono ?_) (fun W kv vv hW h4 h5 => HCM.out ho HNX.out W kv vv (F.go hW).b h4 h5) _ (hid ?_)
    · rintro e w' ⟨u, rfl, ho, hb⟩
      exact ⟨u, rfl, ho.bytes, hb⟩
    · rintro e w' ⟨u, rfl, ho, hb⟩
      exact ⟨u, rfl, ho.bytes, hb⟩
    intro σ w1 hb1 e14
    have F1 := F.go hb1
    rw [e14]
    clear e14 hb1
    go_wp2
    go_ret
    exact ⟨by rw [HL.out]; rfl, F1.b⟩
  | false =>
    rw [ho] at k1
    have HL := hid (HE1.out.trans (if_neg (by simp [ho])))
    go_upto_region 4 with fail
    refine lateR4 (hid F.r0) (hid F.r1) (hid F.r2) (hid F.r3) (z := z) (fun W hW => (HCK.out W (F.go hW).b).mono ?_) (fun W kv hW h4 => HCG.out ho W kv (F.go hW).b h4) _ (hid ?_)
    · rintro e w' ⟨u, rfl, ho, hb⟩
      exact ⟨u, rfl, ho.bytes, hb⟩
    intro σ w1 hb1 e14
    have F1 := F.go hb1
    rw [e14]
    clear e14 hb1
    go_wp2
    go_ret
    exact ⟨by rw [HL.out]; rfl, F1.b⟩
end Go.Proofs.YtclhcjiblfokaaaGreatDoor
namespace Go.Proofs.YtclhcjiblfokaaaGreatDoor
open Go.RowKit

/-- what Ack is to answer, what Timeout -/
def AckC (f : FuncId) : Prop := ∀ (s : St) (v pv av hv2 : Value) (p : Pk) (ack : List (BitVec 8)) (h : Sh) (N : Nat) (w : World) (z : Int), StV w N v s → PkV w N pv p → Bytes w N av ack → ShV w N hv2 h → N ≤ w.heap.size → s.fits → h.fits → ack.length ≤ 140737488351232 → tableAt w → powAt w → askDone s p ack h z →
  Calls Tryz.prog f #[v, pv, av, hv2] w fun e w' => Below w.heap.size w w' ∧ ∃ v', e = .returned (.tuple #[v', .int .i64 (packN s p ack.length z)]) ∧ HoldsS N w.heap.size w' v' (packS s p ack.length z)
def LateC (f : FuncId) : Prop := ∀ (s : St) (v pv hv2 : Value) (p : Pk) (next : Int) (h : Sh) (N : Nat) (w : World) (z : Int), StV w N v s → PkV w N pv p → ShV w N hv2 h → N ≤ w.heap.size → s.fits → h.fits → tableAt w → powAt w → askLate s p next h z →
  Calls Tryz.prog f #[v, pv, .int .i64 next, hv2] w fun e w' => Below w.heap.size w w' ∧ ∃ v', e = .returned (.tuple #[v', .int .i64 (lateN s p next h.height z)]) ∧ HoldsS N w.heap.size w' v' (lateS s p next h.height z)
theorem sndrN_ok {s : St} {p : Pk} (h : sndrN s p = 0) : wrongPk p = 0 ∧ cendL s p.src [3, 4] = 0 ∧ (chAt s p.src).ochan = p.dst ∧ ∃ m, hasM s.sent p.src p.seq = some m ∧ m.dig = digPk p := by
  unfold sndrN at h
  split at h
  · rename_i h1; exact absurd h h1
  rename_i h1
  split at h
  · rename_i h2; exact absurd h h2
  rename_i h2
  split at h
  · cases h
  rename_i h3
  cases hm : hasM s.sent p.src p.seq with
  | none => rw [hm] at h; cases h
  | some m =>
    rw [hm] at h
    simp only at h
    split at h
    · cases h
    rename_i h4
    exact ⟨by simpa using h1, by simpa using h2, by simpa using h3, m, rfl, by simpa using h4⟩
set_option maxRecDepth 100000 in
set_option maxHeartbeats 4000000 in
theorem packC : AckC 16 := by
  intro s v pv av hv2 p ack h N w z hv hp ha hh hN hfit hhf hal htab hpow hz
  have HE := hid (show packN s p ack.length z = if sndrN s p ≠ 0 then sndrN s p else doneN (chAt s p.src) p ack.length z from rfl)
  have HSN := hid (fun W (hx : Below w.heap.size w W) => sndr_any s p v pv N W (hv.below (hx.mono hN)) (hp.below (hx.mono hN)) (Nat.le_trans hN hx.size) hfit (htab.past hx))
  have HDO := hid (fun W ev (c : Ch) (f : Cl) (hx : Below w.heap.size w W) (he : EndV W N ev c f) (hff : f.fits) (hw : wrongPk p = 0) hz => done_any s c f p ack h v ev pv av hv2 N W z (hv.below (hx.mono hN)) he (hp.below (hx.mono hN)) (ha.below (hx.mono hN)) (hh.below (hx.mono hN)) (Nat.le_trans hN hx.size) hff hhf hal (htab.past hx) (hpow.below hx) hw hz)
  have HSE := hid (fun W (m : Mk) (hx : Below w.heap.size w W) (h0 : wrongS s = 0) hm => settled_any s p m v pv N W (hv.below (hx.mono hN)) (hp.below (hx.mono hN)) (Nat.le_trans hN hx.size) hfit h0 hm)
  obtain ⟨oa, ca, rfl, -⟩ := ha.shape
  obtain ⟨o1, c1, o2, c2, o3, c3, o4, c4, o5, c5, o6, c6, o7, c7, rfl, hm⟩ := hv.open
  obtain ⟨odd, cdd, rfl, hdd⟩ := hp.open
  obtain ⟨q1, e1, q2, e2, q3, e3, r1, s1, r2, s2, r3, s3, r4, s4, r5, s5, r6, s6, rfl, -⟩ := hh.open
  have HCF := hid hfit.2.1.2
  have HZZ := hid hz
  clear hv hp hh hm hdd hfit hhf htab hpow hz ha
  go_enter Tryz.func16, Tryz.ntmps16
  go_upto_region 1 with fail
  refine fbox4 ?_
  intro w0 F0 hs0
  go_wp2_with (first | refine F0.load 0 rfl rfl rfl rfl structState ?_ | refine F0.load 1 rfl rfl rfl rfl structPacket ?_)
  refine (HSN.out w0 F0.b).mono ?_
  rintro e w1 ⟨hb1, ev, rfl, her⟩
  have F1 := F0.go hb1
  have HS1 := hid (show w.heap.size + 4 ≤ w1.heap.size by have := hb1.size; omega)
  obtain ⟨y0, y1, y2, y3, y4, y5, y6, y7, y8, y9, y10, hev, hone⟩ := her.cells
  subst hev
  have HER := hid her
  have HON := hid hone
  clear her hone hb1 F0 hs0 HSN
  go_upto_region 2 with (refine F1.storeNew rfl rfl rfl rfl structEnd rfl HON.out ?_; intro w2 F2 hb2)
  have HER2 := hid (HER.out.below (hb2.mono (Nat.le_trans hN F1.b.size)))
  clear HER HON hb2 F1
  by_cases hz : sndrN s p = 0
  · have HE2 := hid (HE.out.trans (if_neg (by simp [hz])))
    obtain ⟨hwp, hce, -, mk, hmk, -⟩ := sndrN_ok hz
    obtain ⟨j, k, m, c, d, f, hij, hj, hca, hck, hd, hdm, hf, hfo, hwc, hwf, -⟩ := cendL_fol hce
    obtain ⟨ka, ma, hev, hfv⟩ := HER2.out.1 hz
    rw [hca, hfo] at hev
    rw [hfo] at hfv
    rw [hca] at HE2
    have HWS := hid (cendL_ok hce).1
    simp only [Value.agg.injEq, Array.mk.injEq, List.cons.injEq, and_true] at hev
    obtain ⟨rfl, rfl, rfl, rfl, rfl, rfl, rfl, rfl, rfl, rfl, rfl⟩ := hev
    rw [hz]
    have HFV := hid hfv
    have HJ := hid hj
    have HIJ := hid hij
    have HCA := hid hca
    have HWC := hid (wrongCh_ok hwc)
    have HWP := hid hwp
    have HMK := hid hmk
    have HAS := hid (show ShownN f s.time h.height (fun r => h.prf.key = keyL kwAck [p.dst.toNat, p.seq.toNat] ∧ h.prf.val = sha ack ∧ shownB r h.prf) z by have := HZZ.out; unfold askDone at this; rw [hfo] at this; exact this)
    have HFF := hid (HCF.out f (List.mem_of_getElem? hf))
    clear hz hij hj hca hck hd hdm hf hfo hwc hwf hfv HER2 HE hwp hce HZZ HCF hmk
    go_wp2_with (first | refine F2.load 0 rfl rfl rfl rfl structState ?_ | refine F2.load 4 rfl rfl rfl rfl structEnd ?_ | refine F2.load 1 rfl rfl rfl rfl structPacket ?_ | refine F2.load 2 rfl rfl rfl rfl structShown ?_)
    refine (HDO.out w2 _ c f F2.b ⟨ka, ma, rfl, HFV.out⟩ HFF.out HWP.out HAS.out).mono ?_
    rintro e w3 ⟨rfl, hb3⟩
    have F3 := F2.go hb3
    have hsz3 := hb3.size
    have hlt2 := F2.lts
    clear hb3 HDO HFV HAS HFF
    by_cases hz : doneN c p ack.length z = 0
    · have HZN := hid (HE2.out.trans hz)
      have HCZ := hid hz
      rw [hz]
      clear hz HE2
      go_wp2_with (first | refine F3.load 0 rfl rfl rfl rfl structState ?_ | refine F3.load 1 rfl rfl rfl rfl structPacket ?_)
      refine (HSE.out w3 mk F3.b HWS.out HMK.out).mono ?_
      rintro e w5 ⟨hb5, p1, d1, p2, d2, p3, d3, p4, n4, d4, p5, d5, p6, d6, p7, d7, rfl, hown⟩
      have F5 := F3.go hb5
      have hg0 := F2.r0.lt
      have hg3 := F2.r3.lt
      have hsz5 := hb5.size
      have HO5 := hid hown
      clear hown hb5 HSE
      go_upto_region 8 with (refine F5.store 0 rfl rfl rfl rfl rfl structState rfl (by simp [Value.oneCell']) ?_; intro w6 F6 O6)
      have HO6 := hid (HO5.out.only O6 (by omega))
      have hsz6 := O6.size
      clear O6 F5 HO5 F3
      have hlt0 : ∀ g ∈ [w.heap.size, w.heap.size + 1, w.heap.size + 1 + 1, w.heap.size + 1 + 1 + 1, w1.heap.size], g < w3.heap.size := fun g hg => Nat.lt_of_lt_of_le (hlt2 g hg) (by omega)
      have ko := F6.r4.k11.2.1
      have k5 := F6.r0.k10.2.2.2.2.2.1
      have m0 := F6.r1.k5.1
      cases ho : c.ordered with
      | true =>
        rw [ho] at ko
        have HOR := hid ho
        clear ho
        obtain ⟨g, hpg, hgb, hgl, hcc, hfz⟩ := RowT.at HO6.out.chans (r := chCells c) (i := j) (by rw [List.getElem?_map, HJ.out]; rfl)
        subst hpg
        have f6 := hcc 6 _ rfl
        have z6 := hfz (j * 7 + 6)
        skip
        have hij := HIJ.out
        rw [hij] at m0
        have hlt : (j : Int) < (s.chans.length : Int) := by have := (List.getElem?_eq_some_iff.1 HJ.out).1; omega
        have hwr : IntKind.i64.wrap (c.ack + 1) = c.ack + 1 := by have := HWC.out; rw [IntKind.wrap_i64]; omega
        have hput := RowT.putCell HO6.out.chans (i := j) (j := 6) (x := .int .i64 (c.ack + 1)) (r := chCells c) (by rw [List.getElem?_map, HJ.out]; rfl) (by decide) rfl
        have hput' : OwnC 53 chCells 7 (w6.setCell ⟨g, j * 7 + 6, none⟩ (.int .i64 (c.ack + 1))) w3.heap.size (.slice (some ⟨g, 0, none⟩) s.chans.length d3) (s.chans.set j c.ack1) := by
          have e : (s.chans.map chCells).set j ((chCells c).set 6 (.int .i64 (c.ack + 1))) = (s.chans.set j c.ack1).map chCells := by rw [List.map_set]; rfl
          rw [e] at hput
          exact hput
        have hgr : w6.grownBy (w6.setCell ⟨g, j * 7 + 6, none⟩ (.int .i64 (c.ack + 1))) (some g) := grown_putCells w6 g (j * 7 + 6) [.int .i64 (c.ack + 1)]
        have HO7 := hid (HO6.out.putChans hgr hput' (fun b e => .inl e) (fun b e => .inr (RowT.own hput' b e).1))
        have hne : ∀ q ∈ [w.heap.size, w.heap.size + 1, w.heap.size + 1 + 1, w.heap.size + 1 + 1 + 1, w1.heap.size], q < g := fun q hq => Nat.lt_of_lt_of_le (hlt0 q hq) hgb
        have F7 := F6.past (w2 := w6.setCell ⟨g, j * 7 + 6, none⟩ (.int .i64 (c.ack + 1))) ((Below.refl g _).setCell (Nat.le_refl g) _) (by have := hne _ (.head _); omega) hne
        obtain ⟨w7, hw7⟩ : ∃ w7, w6.setCell ⟨g, j * 7 + 6, none⟩ (.int .i64 (c.ack + 1)) = w7 := ⟨_, rfl⟩
        rw [hw7] at HO7 F7
        have HW7 := hid hw7
        clear hw7 hput hput' hcc hfz HO6 hgr hij
        go_upto_region 10 with fail
        refine at_world HW7.out ?_
        clear f6 z6 k5 m0 F6 ko hwr
        go_wp2_with (first | refine F7.load 0 rfl rfl rfl rfl structState ?_ | (refine F7.store 3 rfl rfl rfl rfl rfl structState rfl (by simp [Value.oneCell']) ?_; intro w8 F8 O8))
        refine ret_ct Tryz.results16 rfl F8.r3 structState rfl ⟨F8.b, _, by rw [HZN.out]; rfl, ?_⟩
        have hgs : packS s p ack.length z = { ({ s with sent := withoutM s.sent p.src p.seq } : St) with chans := s.chans.set j c.ack1 } := by
          unfold packS
          rw [if_pos HZN.out]
          unfold goneS setCh
          rw [HCA.out, if_pos HOR.out, HIJ.out]
          rfl
        rw [hgs]
        exact (HO7.out.only O8 (by omega)).holds (fun b hb => hb.imp id (fun h => by omega))
      | false =>
        rw [ho] at ko
        have HOR := hid ho
        clear ho
        go_upto_region 10 with fail
        clear k5 m0 ko
        go_wp2_with (first | refine F6.load 0 rfl rfl rfl rfl structState ?_ | (refine F6.store 3 rfl rfl rfl rfl rfl structState rfl (by simp [Value.oneCell']) ?_; intro w8 F8 O8))
        refine ret_ct Tryz.results16 rfl F8.r3 structState rfl ⟨F8.b, _, by rw [HZN.out]; rfl, ?_⟩
        have hgs : packS s p ack.length z = { s with sent := withoutM s.sent p.src p.seq } := by
          unfold packS
          rw [if_pos HZN.out]
          unfold goneS
          rw [HCA.out, if_neg (by simp [HOR.out])]
        rw [hgs]
        exact (HO6.out.only O8 (by omega)).holds (fun b hb => hb.imp id (fun h => by omega))
    · have HL := hid HE2.out
      have HNZ := hid (show packN s p ack.length z ≠ 0 by rw [HE2.out]; exact hz)
      have e0 : (doneN c p ack.length z != 0) = true := by simpa using hz
      clear hz
      go_wp2_with (refine F3.store 3 rfl rfl rfl rfl rfl structState rfl (by simp [Value.oneCell']) ?_; intro wz FZ OZ)
      refine ret_ct Tryz.results16 rfl FZ.r3 structState rfl ⟨FZ.b, _, by rw [HL.out]; rfl, ?_⟩
      rw [show packS s p ack.length z = St.none from if_neg HNZ.out]
      exact holdsS_none _ _ _
  · have HL := hid (HE.out.trans (if_pos hz))
    have HNZ := hid (show packN s p ack.length z ≠ 0 by rw [HL.out]; exact hz)
    have e0 : (sndrN s p != 0) = true := by simpa using hz
    clear hz
    go_wp2_with (refine F2.store 3 rfl rfl rfl rfl rfl structState rfl (by simp [Value.oneCell']) ?_; intro wz FZ OZ)
    refine ret_ct Tryz.results16 rfl FZ.r3 structState rfl ⟨FZ.b, _, by rw [HL.out]; rfl, ?_⟩
    rw [show packS s p ack.length z = St.none from if_neg HNZ.out]
    exact holdsS_none _ _ _
end Go.Proofs.YtclhcjiblfokaaaGreatDoor
