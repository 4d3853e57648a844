/-
  A packet is received: packet.Recv.
-/
import Derived.Test.YtclhcjiblfokaaaGreatDoorppPkDig
import Derived.Test.YtclhcjiblfokaaaGreatDoorppPkWith
import Derived.Test.YtclhcjiblfokaaaGreatDoorppRegW
import Derived.Test.YtclhcjiblfokaaaGreatDoorppPkSend
import Derived.Test.YtclhcjiblfokaaaGreatDoorppPkKey
import Derived.Test.YtclhcjiblfokaaaGreatDoorppClShown
namespace Go.Proofs.YtclhcjiblfokaaaGreatDoor
open Go.RowKit

set_option maxRecDepth 100000 in
set_option maxHeartbeats 4000000 in
theorem recvR5 {y0 y1 y2 y3 y6 y8 y9 y11 y14 y15 y16 y17 y18 y19 y20 y21 y22 y23 y24 y25 y26 y42 y43 y44 y45 y46 y47 y48 y49 y50 y51 y52 y53 y54 y55 y56 y57 y58 y59 y60 y61 y62 y63 y64 y65 y66 y67 y68 y69 y70 y71 y72 y73 y74 y75 y76 y77 y78 y79 y80 y81 y82 z13 z27 z28 z29 z30 z31 z32 z33 z34 z35 z36 z37 z38 z39 z40 z41 : Value} {x0 x1 x2 x3 x4 x5 x6 x7 x8 x9 e0 e1 e2 e3 e4 e5 e6 e7 e8 e9 e10 u0 u1 u2 u3 u4 u5 u6 u7 u8 u9 u10 u11 u12 u13 u14 u15 u16 u17 p1 p3 p4 : Value} {gs gp gh ge nd cd : Nat} {od : Option Addr} {a q z : Int} {key : List (BitVec 8)} {w : World} (hgs : Hid (Row w gs 28 [x0, x1, x2, x3, x4, x5, x6, x7, x8, x9])) (hgp : Hid (Row w gp 31 [.int .i64 a, p1, .int .i64 q, p3, p4])) (hgh : Hid (Row w gh 38 [u0, u1, u2, u3, u4, u5, u6, u7, u8, u9, u10, u11, u12, u13, u14, u15, u16, u17])) (hge : Hid (Row w ge 81 [e0, e1, e2, e3, e4, e5, e6, e7, e8, e9, e10])) (hck : ∀ W, Below w.heap.size w W → Calls Tryz.prog 46 #[.int .i64 a, .int .i64 q] W fun e w' => ∃ v, e = .returned v ∧ Bytes w' w'.heap.size v key ∧ Below W.heap.size W w') (hcm : ∀ W kv, Below w.heap.size w W → Bytes W W.heap.size kv key → Calls Tryz.prog 45 #[.agg #[e7, e8, e9, e10], x2, u0, kv, .slice od nd cd, .agg #[u1, u2, u3, u4, u5]] W fun e w' => e = .returned (.int .i64 z) ∧ Below W.heap.size W w') (Q : Exit → Act → World → Prop)
    (hQ : Hid (∀ (σ : Nat → Value) (w' : World), Below w.heap.size w w' → σ 15 = .int .i64 z → Q .normal ⟨#[y0, y1, y2, y3, .pointer (some ⟨gs, 0, none⟩), .pointer (some ⟨gp, 0, none⟩), y6, .pointer (some ⟨gh, 0, none⟩), y8, y9, .pointer (some ⟨ge, 0, none⟩), y11, .slice od nd cd, σ 15, y14, y15, y16, y17, y18, y19, y20, y21, y22, y23, y24, y25, y26, σ 0, σ 1, σ 2, σ 3, σ 4, σ 5, σ 6, σ 7, σ 8, σ 9, σ 10, σ 11, σ 12, σ 13, σ 14, y42, y43, y44, y45, y46, y47, y48, y49, y50, y51, y52, y53, y54, y55, y56, y57, y58, y59, y60, y61, y62, y63, y64, y65, y66, y67, y68, y69, y70, y71, y72, y73, y74, y75, y76, y77, y78, y79, y80, y81, y82], []⟩ w')) :
    Code.wp Tryz.prog (.region 5 ((Tryz.f14.body.bind (regOf 5)).getD #[]) true) Q ⟨#[y0, y1, y2, y3, .pointer (some ⟨gs, 0, none⟩), .pointer (some ⟨gp, 0, none⟩), y6, .pointer (some ⟨gh, 0, none⟩), y8, y9, .pointer (some ⟨ge, 0, none⟩), y11, .slice od nd cd, z13, y14, y15, y16, y17, y18, y19, y20, y21, y22, y23, y24, y25, y26, z27, z28, z29, z30, z31, z32, z33, z34, z35, z36, z37, z38, z39, z40, z41, y42, y43, y44, y45, y46, y47, y48, y49, y50, y51, y52, y53, y54, y55, y56, y57, y58, y59, y60, y61, y62, y63, y64, y65, y66, y67, y68, y69, y70, y71, y72, y73, y74, y75, y76, y77, y78, y79, y80, y81, y82], []⟩ w := by
  conv => arg 2; arg 2; whnf
  conv => arg 4; dsimp only
  refine region_grows (by kernel_rfl) (fun σ => #[y0, y1, y2, y3, .pointer (some ⟨gs, 0, none⟩), .pointer (some ⟨gp, 0, none⟩), y6, .pointer (some ⟨gh, 0, none⟩), y8, y9, .pointer (some ⟨ge, 0, none⟩), y11, .slice od nd cd, σ 15, y14, y15, y16, y17, y18, y19, y20, y21, y22, y23, y24, y25, y26, σ 0, σ 1, σ 2, σ 3, σ 4, σ 5, σ 6, σ 7, σ 8, σ 9, σ 10, σ 11, σ 12, σ 13, σ 14, y42, y43, y44, y45, y46, y47, y48, y49, y50, y51, y52, y53, y54, y55, y56, y57, y58, y59, y60, y61, y62, y63, y64, y65, y66, y67, y68, y69, y70, y71, y72, y73, y74, y75, y76, y77, y78, y79, y80, y81, y82]) (fun i => ([z27, z28, z29, z30, z31, z32, z33, z34, z35, z36, z37, z38, z39, z40, z41, z13] : List Value).getD i undef) rfl (fun i X W => match i with
    | 0 => X = .pointer (some ⟨ge, 7, none⟩)
    | 1 => X = .agg #[e7, e8, e9, e10]
    | 2 => X = .pointer (some ⟨gs, 2, none⟩)
    | 3 => X = x2
    | 4 => X = .pointer (some ⟨gh, 0, none⟩)
    | 5 => X = u0
    | 6 => X = .pointer (some ⟨gp, 0, none⟩)
    | 7 => X = .int .i64 a
    | 8 => X = .pointer (some ⟨gp, 2, none⟩)
    | 9 => X = .int .i64 q
    | 10 => Bytes W W.heap.size X key
    | 11 => X = .slice od nd cd
    | 12 => X = .pointer (some ⟨gh, 1, none⟩)
    | 13 => X = .agg #[u1, u2, u3, u4, u5]
    | 14 => X = .int .i64 z
    | 15 => X = .int .i64 z
    | _ => True) ?_ (by kernel_rfl) ?_ ?_
  · intro i X W W' HB H
    iterate 16 (obtain _ | i := i; first | exact H | exact (H.below HB).mono HB.size)
    exact H
  · refine ⟨?_, ?_, ?_, ?_, ?_, ?_, ?_, ?_, ?_, ?_, ?_, ?_, ?_, ?_, ?_, ?_, trivial⟩
    all_goals (intro σ W HJ hdep; simp [Region.binds] at hdep; have HJ := hid HJ; obtain ⟨gsk0, gsk1, gsk2, gsk3, gsk4, gsk5, gsk6, gsk7, gsk8, gsk9⟩ := (hgs.out.below HJ.out hgs.out.lt).k10; obtain ⟨gpk0, gpk1, gpk2, gpk3, gpk4⟩ := (hgp.out.below HJ.out hgp.out.lt).k5; obtain ⟨ghk0, ghk1, ghk2, ghk3, ghk4, ghk5, ghk6, ghk7, ghk8, ghk9, ghk10, ghk11, ghk12, ghk13, ghk14, ghk15, ghk16, ghk17⟩ := (hgh.out.below HJ.out hgh.out.lt).k18; obtain ⟨gek0, gek1, gek2, gek3, gek4, gek5, gek6, gek7, gek8, gek9, gek10⟩ := (hge.out.below HJ.out hge.out.lt).k11)
    · refine wpOp_plain rfl rfl ?_; go_simp; exact Left.mk0 _ (by first | rfl | simp [updF, *]) HJ.out rfl
    · refine wpOp_plain rfl rfl ?_; go_simp; exact Left.mk0 _ (by first | rfl | simp [updF, *]) HJ.out rfl
    · refine wpOp_plain rfl rfl ?_; go_simp; exact Left.mk0 _ (by first | rfl | simp [updF, *]) HJ.out rfl
    · refine wpOp_plain rfl rfl ?_; go_simp; exact Left.mk0 _ (by first | rfl | simp [updF, *]) HJ.out rfl
    · refine wpOp_plain rfl rfl ?_; go_simp; exact Left.mk0 _ (by first | rfl | simp [updF, *]) HJ.out rfl
    · refine wpOp_plain rfl rfl ?_; go_simp; exact Left.mk0 _ (by first | rfl | simp [updF, *]) HJ.out rfl
    · refine wpOp_plain rfl rfl ?_; go_simp; exact Left.mk0 _ (by first | rfl | simp [updF, *]) HJ.out rfl
    · refine wpOp_plain rfl rfl ?_; go_simp; exact Left.mk0 _ (by first | rfl | simp [updF, *]) HJ.out rfl
    · refine wpOp_plain rfl rfl ?_; go_simp; exact Left.mk0 _ (by first | rfl | simp [updF, *]) HJ.out rfl
    · refine wpOp_plain rfl rfl ?_; go_simp; exact Left.mk0 _ (by first | rfl | simp [updF, *]) HJ.out rfl
    · have HC := hid (hck W HJ.out); refine wpOp_plain rfl rfl ?_; go_simp; refine HC.out.mono ?_; rintro e w2 ⟨v, rfl, hv, hb⟩; exact Left.mk v (by first | rfl | simp [updF, *]) hb HJ.out hv
    · refine wpOp_plain rfl rfl ?_; go_simp; exact Left.mk0 _ (by first | rfl | simp [updF, *]) HJ.out rfl
    · refine wpOp_plain rfl rfl ?_; go_simp; exact Left.mk0 _ (by first | rfl | simp [updF, *]) HJ.out rfl
    · refine wpOp_plain rfl rfl ?_; go_simp; exact Left.mk0 _ (by first | rfl | simp [updF, *]) HJ.out rfl
    · obtain ⟨d1, d3, d5, d10, d11, d13⟩ := hdep; have HC := hid (hcm W _ HJ.out d10); clear d10; refine wpOp_plain rfl rfl ?_; go_simp; refine HC.out.mono ?_; rintro e w2 ⟨rfl, hb⟩; exact Left.mk _ (by first | rfl | simp [updF, *]) hb HJ.out rfl
    · refine wpOp_plain rfl rfl ?_; go_simp; exact Left.mk0 _ (by first | rfl | simp [updF, *]) HJ.out rfl
  · intro σ w' hb hg
    exact hQ.out σ w' hb (hg 15 (by decide))
set_option maxRecDepth 100000 in
set_option maxHeartbeats 4000000 in
theorem recvR12 {y0 y1 y3 y6 y7 y8 y9 y10 y11 y12 y13 y14 y15 y16 y17 y18 y19 y20 y21 y22 y23 y24 y25 y26 y27 y28 y29 y30 y31 y32 y33 y34 y35 y36 y37 y38 y39 y40 y41 y42 y43 y44 y45 y46 y47 y48 y49 y50 y51 y52 y53 y54 y55 y56 y57 y58 y59 y60 y61 y62 y63 y64 y65 y66 y67 y68 y69 y70 y82 z71 z72 z73 z74 z75 z76 z77 z78 z79 z80 z81 : Value} {x0 x1 x2 x3 x4 x5 x6 x7 x9 p0 p3 p4 : Value} {gs gp n6 c6 na ca : Nat} {oa o6 : Option Addr} {ch q : Int} {dig : List (BitVec 8)} {w : World} (hgs : Hid (Row w gs 28 [x0, x1, x2, x3, x4, x5, x6, x7, .slice o6 n6 c6, x9])) (hgp : Hid (Row w gp 31 [p0, .int .i64 ch, .int .i64 q, p3, p4]))  (hsum : ∀ W, Below w.heap.size w W → Calls Tryz.prog 27 #[.slice oa na ca] W fun e w' => ∃ od cd, e = .returned (.slice od 32 cd) ∧ OwnB w' W.heap.size (.slice od 32 cd) dig ∧ Below W.heap.size W w') (POST : Value → World → Prop) (hpost : ∀ v W, POST v W → Row W gs 28 [x0, x1, x2, x3, x4, x5, x6, x7, .slice o6 n6 c6, x9] ∧ ∃ o n c, v = .slice o n c)
    (hwith : ∀ W od cd, Below w.heap.size w W → OwnB W w.heap.size (.slice od 32 cd) dig → Calls Tryz.prog 36 #[.slice o6 n6 c6, .agg #[.int .i64 ch, .int .i64 q, .slice od 32 cd]] W fun e w' => ∃ v, e = .returned v ∧ POST v w') (Q : Exit → Act → World → Prop)
    (hQ : Hid (∀ (σ : Nat → Value) (W : World), POST (σ 9) W → Q .normal ⟨#[y0, y1, .slice oa na ca, y3, .pointer (some ⟨gs, 0, none⟩), .pointer (some ⟨gp, 0, none⟩), y6, y7, y8, y9, y10, y11, y12, y13, y14, y15, y16, y17, y18, y19, y20, y21, y22, y23, y24, y25, y26, y27, y28, y29, y30, y31, y32, y33, y34, y35, y36, y37, y38, y39, y40, y41, y42, y43, y44, y45, y46, y47, y48, y49, y50, y51, y52, y53, y54, y55, y56, y57, y58, y59, y60, y61, y62, y63, y64, y65, y66, y67, y68, y69, y70, σ 0, σ 1, σ 2, σ 3, σ 4, σ 5, σ 6, σ 7, σ 8, σ 9, σ 10, y82], []⟩ (W.setCell ⟨gs, 8, none⟩ (σ 9)))) :
    Code.wp Tryz.prog (.region 12 ((Tryz.f14.body.bind (regOf 12)).getD #[]) true) Q ⟨#[y0, y1, .slice oa na ca, y3, .pointer (some ⟨gs, 0, none⟩), .pointer (some ⟨gp, 0, none⟩), y6, y7, y8, y9, y10, y11, y12, y13, y14, y15, y16, y17, y18, y19, y20, y21, y22, y23, y24, y25, y26, y27, y28, y29, y30, y31, y32, y33, y34, y35, y36, y37, y38, y39, y40, y41, y42, y43, y44, y45, y46, y47, y48, y49, y50, y51, y52, y53, y54, y55, y56, y57, y58, y59, y60, y61, y62, y63, y64, y65, y66, y67, y68, y69, y70, z71, z72, z73, z74, z75, z76, z77, z78, z79, z80, z81, y82], []⟩ w := by
  conv => arg 2; arg 2; whnf
  conv => arg 4; dsimp only
  refine region_write 9 (by kernel_rfl) (fun σ => #[y0, y1, .slice oa na ca, y3, .pointer (some ⟨gs, 0, none⟩), .pointer (some ⟨gp, 0, none⟩), y6, y7, y8, y9, y10, y11, y12, y13, y14, y15, y16, y17, y18, y19, y20, y21, y22, y23, y24, y25, y26, y27, y28, y29, y30, y31, y32, y33, y34, y35, y36, y37, y38, y39, y40, y41, y42, y43, y44, y45, y46, y47, y48, y49, y50, y51, y52, y53, y54, y55, y56, y57, y58, y59, y60, y61, y62, y63, y64, y65, y66, y67, y68, y69, y70, σ 0, σ 1, σ 2, σ 3, σ 4, σ 5, σ 6, σ 7, σ 8, σ 9, σ 10, y82]) (fun i => ([z71, z72, z73, z74, z75, z76, z77, z78, z79, z80, z81, undef] : List Value).getD i undef) rfl (.pointer (some ⟨gs, 8, none⟩)) (fun i X W => match i with
    | 0 => X = .pointer (some ⟨gs, 8, none⟩)
    | 1 => X = .slice o6 n6 c6
    | 2 => X = .pointer (some ⟨gp, 1, none⟩)
    | 3 => X = .int .i64 ch
    | 4 => X = .pointer (some ⟨gp, 2, none⟩)
    | 5 => X = .int .i64 q
    | 6 => X = .slice oa na ca
    | 7 => ∃ od cd, X = .slice od 32 cd ∧ OwnB W w.heap.size (.slice od 32 cd) dig
    | 8 => ∃ od cd, X = .agg #[.int .i64 ch, .int .i64 q, .slice od 32 cd] ∧ OwnB W w.heap.size (.slice od 32 cd) dig
    | _ => True) ?_ POST (fun v W => ∃ W0, POST v W0 ∧ W = W0.setCell ⟨gs, 8, none⟩ v) (by kernel_rfl) ?_ ?_ ?_ ?_ ?_
  · intro i X W W' HB H
    iterate 9 (obtain _ | i := i; first | exact H | exact (by obtain ⟨od, cd, h1, h2⟩ := H; exact ⟨od, cd, h1, h2.below HB⟩))
    exact H
  · refine ⟨?_, ?_, ?_, ?_, ?_, ?_, ?_, ?_, ?_, trivial⟩
    all_goals (intro σ W HJ hdep; simp [Region.binds] at hdep; have HJ := hid HJ; obtain ⟨gsk0, gsk1, gsk2, gsk3, gsk4, gsk5, gsk6, gsk7, gsk8, gsk9⟩ := (hgs.out.below HJ.out hgs.out.lt).k10; obtain ⟨gpk0, gpk1, gpk2, gpk3, gpk4⟩ := (hgp.out.below HJ.out hgp.out.lt).k5)
    · refine wpOp_plain rfl rfl ?_; go_simp; exact Left.mk0 _ (by first | rfl | simp [updF, *]) HJ.out rfl
    · refine wpOp_plain rfl rfl ?_; go_simp; exact Left.mk0 _ (by first | rfl | simp [updF, *]) HJ.out rfl
    · refine wpOp_plain rfl rfl ?_; go_simp; exact Left.mk0 _ (by first | rfl | simp [updF, *]) HJ.out rfl
    · refine wpOp_plain rfl rfl ?_; go_simp; exact Left.mk0 _ (by first | rfl | simp [updF, *]) HJ.out rfl
    · refine wpOp_plain rfl rfl ?_; go_simp; exact Left.mk0 _ (by first | rfl | simp [updF, *]) HJ.out rfl
    · refine wpOp_plain rfl rfl ?_; go_simp; exact Left.mk0 _ (by first | rfl | simp [updF, *]) HJ.out rfl
    · refine wpOp_plain rfl rfl ?_; go_simp; exact Left.mk0 _ (by first | rfl | simp [updF, *]) HJ.out rfl
    · have HC := hid (hsum W HJ.out)
      refine wpOp_plain rfl rfl ?_
      go_simp
      refine HC.out.mono ?_
      rintro e w2 ⟨od, cd, rfl, ho, hb⟩
      exact Left.mk _ (by first | rfl | simp [updF, *]) hb HJ.out ⟨od, cd, rfl, ownsB_mono ho HJ.out.size⟩
    · obtain ⟨d3, d5, od, cd, d6, ho⟩ := hdep
      have HO := hid ho
      clear ho
      refine wpOp_plain rfl rfl ?_
      go_simp
      exact Left.mk0 (.agg #[.int .i64 ch, .int .i64 q, .slice od 32 cd]) (by first | rfl | simp [updF, *]) HJ.out ⟨od, cd, rfl, HO.out⟩
  · intro σ W HJ hg
    have eL : σ 1 = .slice o6 n6 c6 := hg 1 (by decide)
    obtain ⟨od, cd, eB, ho⟩ : ∃ od cd, σ 8 = .agg #[.int .i64 ch, .int .i64 q, .slice od 32 cd] ∧ OwnB W w.heap.size (.slice od 32 cd) dig := hg 8 (by decide)
    have HC := hid (hwith W od cd HJ ho)
    clear hg HJ ho
    refine wpOp_plain rfl rfl ?_
    go_simp
    refine HC.out.mono ?_
    rintro e w2 ⟨v, rfl, hp⟩
    exact ⟨v, by first | rfl | simp [updF, *], hp⟩
  · intro σ W
    refine wpOp_plain rfl rfl ?_
    go_simp
    exact ⟨by first | rfl | simp [updF, *], rfl⟩
  · intro σ W eu hp
    obtain ⟨hr, o, n, c, ev⟩ := hpost _ _ hp
    have kc := hr.cell 8
    have kz := hr.frozen 8
    simp at kc
    have HP := hid hp
    clear hp hr
    refine wpOp_plain rfl rfl ?_
    go_simp
    rw [ev] at HP
    exact ⟨undef, by first | rfl | simp [updF, *], W, HP.out, by first | rfl | rw [ev]⟩
  · rintro σ W ⟨W0, hp, rfl⟩ _
    exact hQ.out σ W0 hp
end Go.Proofs.YtclhcjiblfokaaaGreatDoor
namespace Go.Proofs.YtclhcjiblfokaaaGreatDoor
open Go.RowKit

set_option maxRecDepth 100000 in
set_option maxHeartbeats 4000000 in
theorem pturn_any (s : St) (c : Ch) (f : Cl) (p : Pk) (v ev pv : Value) (N : Nat) (w : World) (hv : StV w N v s) (he : EndV w N ev c f) (hp : PkV w N pv p) (hN : N ≤ w.heap.size) (h0 : wrongS s = 0) :
    Calls Tryz.prog 94 #[v, ev, pv] w fun e w' => e = .returned (.bool (turnB s c p)) ∧ Below w.heap.size w w' := by
  have HE := hid (show turnB s c p = if c.ordered = true then decide (p.seq ≠ c.recv) else (hasM s.got p.dst p.seq).isSome from rfl)
  have hR := wrongS_right h0
  have hlen := hR.many.2.2.2.1
  have HSO := hid hR.got.2
  obtain ⟨o1, c1, o2, c2, o3, c3, o4, c4, o5, c5, o6, c6, o7, c7, rfl, hm⟩ := hv.open
  obtain ⟨ka, ma, rfl, hfv⟩ := he
  obtain ⟨od, cd, rfl, hd⟩ := hp.open
  have HFI := hid (fun W (hx : Below w.heap.size w W) => mfind_any s.got p.dst p.seq _ N W (Nat.le_trans hN hx.size) (hm.below (hx.mono hN)).got HSO.out (by omega))
  clear hv hm hp hd hfv h0 hR
  go_enter Tryz.func94, Tryz.ntmps94
  go_upto_region 1 with fail
  refine fbox3 ?_
  intro w0 F hs
  clear hs
  have k1 := F.r1.k11.2.1
  have k5 := F.r1.k11.2.2.2.2.2.1
  obtain ⟨m0, m1, m2, m3, m4⟩ := F.r2.k5
  have k7 := F.r0.k10.2.2.2.2.2.2.2.1
  cases ho : c.ordered with
  | true =>
    rw [ho] at k1
    have HL := hid (HE.out.trans (if_pos ho))
    clear ho HE
    have e1 : decide (p.seq ≠ c.recv) = (p.seq != c.recv) := by rw [Bool.eq_iff_iff]; simp
    have HL2 := hid (HL.out.trans e1)
    go_wp2
    go_ret
    exact ⟨by rw [HL2.out]; rfl, F.b⟩
  | false =>
    rw [ho] at k1
    have HL := hid (HE.out.trans (if_neg (by simp [ho])))
    clear ho HE
    go_wp2_with fail
    refine (HFI.out w0 F.b).mono ?_
    rintro e w1 ⟨rfl, hb1⟩
    have F1 := F.go hb1
    clear k1 k5 k7 m0 m1 m2 m3 m4 hb1 F
    generalize (hasM s.got p.dst p.seq).isSome = bb at *
    go_wp2
    go_ret
    exact ⟨by rw [HL.out]; rfl, F1.b⟩
set_option maxRecDepth 100000 in
set_option maxHeartbeats 4000000 in
theorem rcvr_any (s : St) (p : Pk) (v pv : Value) (oa : Option Addr) (na ca : Nat) (N : Nat) (w : World) (hv : StV w N v s) (hp : PkV w N pv p) (hN : N ≤ w.heap.size) (hfit : s.fits) :
    Calls Tryz.prog 44 #[v, pv, .slice oa na ca] w fun e w' => Below w.heap.size w w' ∧ ∃ ev, e = .returned (.tuple #[ev, .int .i64 (rcvrN s p na)]) ∧ EndR w' N ev s p.dst (rcvrN s p na) := by
  have HE := hid (show rcvrN s p na = if wrongPk p ≠ 0 then wrongPk p else if cendL s p.dst [3] ≠ 0 then cendL s p.dst [3] else if (chAt s p.dst).ochan ≠ p.src then 8 else if p.tmo ≤ s.height then 11
    else if turnB s (chAt s p.dst) p = true then 12 else if (50 ≤ s.got.length ∨ 50 ≤ s.acks.length) ∨ 150 < na ∨ 1000000000000 ≤ (chAt s p.dst).recv then 5 else 0 from rfl)
  have HERR := hid (show ∀ (w : World), rcvrN s p na ≠ 0 → EndR w N (.agg #[.int .i64 0, .bool false, .int .i64 0, .int .i64 0, .int .i64 0, .int .i64 0, .int .i64 0, .string ⟨#[]⟩, .int .i64 0, .bool false, .slice none 0 0]) s p.dst (rcvrN s p na) from fun w hz => ⟨fun h => absurd h hz, fun _ => rfl⟩)
  have HWP := hid (fun W (hx : Below w.heap.size w W) => pwrong_any p pv N W (hp.below (hx.mono hN)))
  have HEN := hid (fun W gl (hx : Below w.heap.size w W) (hr : Row W gl 3 [.int .i64 3]) => pend_any s v N W p.dst [3] gl 1 (hv.below (hx.mono hN)) (Nat.le_trans hN hx.size) hfit hr rfl (by decide))
  have HTU := hid (fun W ev (c : Ch) (f : Cl) (hx : Below w.heap.size w W) (he : EndV W N ev c f) (h0 : wrongS s = 0) => pturn_any s c f p v ev pv N W (hv.below (hx.mono hN)) he (hp.below (hx.mono hN)) (Nat.le_trans hN hx.size) h0)
  obtain ⟨o1, c1, o2, c2, o3, c3, o4, c4, o5, c5, o6, c6, o7, c7, rfl, hm⟩ := hv.open
  obtain ⟨odd, cdd, rfl, hd⟩ := hp.open
  clear hv hm hp hd hfit
  go_enter Tryz.func44, Tryz.ntmps44
  go_upto_region 1 with fail
  refine fbox3 ?_
  intro w0 F0 hs0
  go_wp2_with (refine F0.load 1 rfl rfl rfl rfl structPacket ?_)
  refine (HWP.out w0 F0.b).mono ?_
  rintro e w1 ⟨rfl, hb1⟩
  have F1 := F0.go hb1
  clear hb1 F0 hs0 HWP
  by_cases hz : wrongPk p = 0
  · have HE1 := hid (HE.out.trans (if_neg (by simp [hz])))
    rw [hz]
    clear hz HE
    have m1 := F1.r1.k5.2.1
    go_wp2_with (refine F1.load 0 rfl rfl rfl rfl structState ?_)
    refine boxC ?_
    intro w2 hr2 hb2
    refine (HEN.out w2 _ (F1.go hb2).b hr2).mono ?_
    rintro e w3 ⟨hb3, ev, rfl, her⟩
    have F3 := (F1.go hb2).go hb3
    obtain ⟨y0, y1, y2, y3, y4, y5, y6, y7, y8, y9, y10, hev, hone⟩ := her.cells
    subst hev
    have HER := hid her
    have HON := hid hone
    clear her hone hr2 hb2 hb3 F1 HEN m1
    go_upto_region 5 with (refine F3.storeNew rfl rfl rfl rfl structEnd rfl HON.out ?_; intro w4 F4 hb4)
    have HER4 := hid (HER.out.below (hb4.mono (Nat.le_trans hN F3.b.size)))
    clear HER HON hb4 F3
    by_cases hz : cendL s p.dst [3] = 0
    · have HE2 := hid (HE1.out.trans (if_neg (by simp [hz])))
      obtain ⟨ka, ma, hev, hfv⟩ := HER4.out.1 hz
      have HWS := hid (cendL_ok hz).1
      simp only [Value.agg.injEq, Array.mk.injEq, List.cons.injEq, and_true] at hev
      obtain ⟨rfl, rfl, rfl, rfl, rfl, rfl, rfl, rfl, rfl, rfl, rfl⟩ := hev
      have HOK := hid (show ∀ (w : World) (ev : Value), rcvrN s p na = 0 → EndV w N ev (chAt s p.dst) (folOf s p.dst) → EndR w N ev s p.dst (rcvrN s p na) from fun w ev h1 h2 => ⟨fun _ => h2, fun h => absurd h1 h⟩)
      rw [hz]
      have HFV := hid hfv
      clear hz hfv HER4 HE1
      generalize chAt s p.dst = c at *
      generalize folOf s p.dst = f at *
      have k3 := F4.r3.k11.2.2.2.1
      have k5 := F4.r3.k11.2.2.2.2.2.1
      obtain ⟨m0, m1, m2, m3, m4⟩ := F4.r1.k5
      obtain ⟨s0, s1, s2, s3, s4, s5, s6, s7, s8, s9⟩ := F4.r0.k10
      by_cases h1 : c.ochan = p.src
      · have HE3 := hid (HE2.out.trans (if_neg (by simp [h1])))
        have e1 : (c.ochan != p.src) = false := by simpa using h1
        clear h1 HE2
        by_cases h2 : p.tmo ≤ s.height
        · have HL := hid (HE3.out.trans (if_pos h2))
          have e2 : decide (p.tmo ≤ s.height) = true := by simpa using h2
          clear h2
          go_wp2_with (refine F4.store 2 rfl rfl rfl rfl rfl structEnd rfl (by simp [Value.oneCell']) ?_; intro wz FZ OZ)
          exact ret_ct Tryz.results44 rfl FZ.r2 structEnd rfl ⟨FZ.b, _, by rw [HL.out]; rfl, HERR.out _ (by rw [HL.out]; decide)⟩
        have HE4 := hid (HE3.out.trans (if_neg h2))
        have e2 : decide (p.tmo ≤ s.height) = false := by simpa using h2
        clear h2 HE3
        go_upto_region 11 with fail
        clear k3 k5 m0 m1 m2 m3 m4 s0 s1 s2 s3 s4 s5 s6 s7 s8 s9 e1 e2
        go_wp2_with (first | refine F4.load 0 rfl rfl rfl rfl structState ?_ | refine F4.load 3 rfl rfl rfl rfl structEnd ?_ | refine F4.load 1 rfl rfl rfl rfl structPacket ?_)
        refine (HTU.out w4 _ c f F4.b ⟨ka, ma, rfl, HFV.out⟩ HWS.out).mono ?_
        rintro e w5 ⟨rfl, hb5⟩
        have F5 := F4.go hb5
        have HFV5 := hid (HFV.out.below (hb5.mono (Nat.le_trans hN F4.b.size)))
        clear hb5 F4 HFV HTU
        have k5 := F5.r3.k11.2.2.2.2.2.1
        obtain ⟨s0, s1, s2, s3, s4, s5, s6, s7, s8, s9⟩ := F5.r0.k10
        by_cases h3 : turnB s c p = true
        · have HL := hid (HE4.out.trans (if_pos h3))
          rw [h3]
          clear h3
          go_wp2_with (refine F5.store 2 rfl rfl rfl rfl rfl structEnd rfl (by simp [Value.oneCell']) ?_; intro wz FZ OZ)
          exact ret_ct Tryz.results44 rfl FZ.r2 structEnd rfl ⟨FZ.b, _, by rw [HL.out]; rfl, HERR.out _ (by rw [HL.out]; decide)⟩
        have HE5 := hid (HE4.out.trans (if_neg h3))
        rw [show turnB s c p = false by simpa using h3]
        clear h3 HE4
        by_cases h4 : 50 ≤ s.got.length ∨ 50 ≤ s.acks.length
        · have HL := hid (HE5.out.trans (if_pos (.inl h4)))
          have e4 : decide ((50 : Int) ≤ max (s.got.length : Int) (s.acks.length : Int)) = true := by simp; omega
          clear HE5 h4
          go_wp2_with (refine F5.store 2 rfl rfl rfl rfl rfl structEnd rfl (by simp [Value.oneCell']) ?_; intro wz FZ OZ)
          exact ret_ct Tryz.results44 rfl FZ.r2 structEnd rfl ⟨FZ.b, _, by rw [HL.out]; rfl, HERR.out _ (by rw [HL.out]; decide)⟩
        have e4 : decide ((50 : Int) ≤ max (s.got.length : Int) (s.acks.length : Int)) = false := by simp; omega
        by_cases h5 : 150 < na
        · have HL := hid (HE5.out.trans (if_pos (.inr (.inl h5))))
          have e5 : decide ((150 : Int) < (na : Int)) = true := by simp; omega
          clear HE5 h4 h5
          go_wp2_with (refine F5.store 2 rfl rfl rfl rfl rfl structEnd rfl (by simp [Value.oneCell']) ?_; intro wz FZ OZ)
          exact ret_ct Tryz.results44 rfl FZ.r2 structEnd rfl ⟨FZ.b, _, by rw [HL.out]; rfl, HERR.out _ (by rw [HL.out]; decide)⟩
        have e5 : decide ((150 : Int) < (na : Int)) = false := by simp; omega
        by_cases h6 : 1000000000000 ≤ c.recv
        · have HL := hid (HE5.out.trans (if_pos (.inr (.inr h6))))
          have e6 : decide ((1000000000000 : Int) ≤ c.recv) = true := by simpa using h6
          clear HE5 h4 h5 h6
          go_wp2_with (refine F5.store 2 rfl rfl rfl rfl rfl structEnd rfl (by simp [Value.oneCell']) ?_; intro wz FZ OZ)
          exact ret_ct Tryz.results44 rfl FZ.r2 structEnd rfl ⟨FZ.b, _, by rw [HL.out]; rfl, HERR.out _ (by rw [HL.out]; decide)⟩
        have e6 : decide ((1000000000000 : Int) ≤ c.recv) = false := by simpa using h6
        have HL := hid (HE5.out.trans (if_neg (by omega)))
        clear HE5 h4 h5 h6
        go_upto_region 15 with fail
        clear s0 s1 s2 s3 s4 s5 s6 s7 s8 s9 k5
        go_wp2_with (first | refine F5.load 3 rfl rfl rfl rfl structEnd ?_ | (refine F5.store 2 rfl rfl rfl rfl rfl structEnd rfl (by simp [Value.oneCell']) ?_; intro wz FZ OZ))
        exact ret_ct Tryz.results44 rfl FZ.r2 structEnd rfl ⟨FZ.b, _, by rw [HL.out]; rfl, HOK.out _ _ HL.out ⟨ka, ma, rfl, HFV5.out.below (OZ.down (Below.refl N _) (by omega))⟩⟩
      · have HL := hid (HE2.out.trans (if_pos h1))
        have e1 : (c.ochan != p.src) = true := by simpa using h1
        clear h1
        go_wp2_with (refine F4.store 2 rfl rfl rfl rfl rfl structEnd rfl (by simp [Value.oneCell']) ?_; intro wz FZ OZ)
        exact ret_ct Tryz.results44 rfl FZ.r2 structEnd rfl ⟨FZ.b, _, by rw [HL.out]; rfl, HERR.out _ (by rw [HL.out]; decide)⟩
    · have HL := hid (HE1.out.trans (if_pos hz))
      have e0 : (cendL s p.dst [3] != 0) = true := by simpa using hz
      have HZ := hid hz
      clear hz
      go_wp2_with (refine F4.store 2 rfl rfl rfl rfl rfl structEnd rfl (by simp [Value.oneCell']) ?_; intro wz FZ OZ)
      exact ret_ct Tryz.results44 rfl FZ.r2 structEnd rfl ⟨FZ.b, _, by rw [HL.out]; rfl, HERR.out _ (by rw [HL.out]; exact HZ.out)⟩
  · have HL := hid (HE.out.trans (if_pos hz))
    have e0 : (wrongPk p != 0) = true := by simpa using hz
    have HZ := hid hz
    clear hz
    go_wp2_with (refine F1.store 2 rfl rfl rfl rfl rfl structEnd rfl (by simp [Value.oneCell']) ?_; intro wz FZ OZ)
    exact ret_ct Tryz.results44 rfl FZ.r2 structEnd rfl ⟨FZ.b, _, by rw [HL.out]; rfl, HERR.out _ (by rw [HL.out]; exact HZ.out)⟩
end Go.Proofs.YtclhcjiblfokaaaGreatDoor
namespace Go.Proofs.YtclhcjiblfokaaaGreatDoor
open Go.RowKit

/-- a mark more, whose digest is the piece more -/
theorem got_more {N B : Nat} {W : World} {base : Nat} {s : St} {v1 v2 v3 v4 v5 v6 v7 : Value} (dig : List (BitVec 8)) (od : Option Addr) (nd cd : Nat) (h : StOwnM (fun b => b < N ∨ B ≤ b) base W s (fun w2 => Bytes w2 w2.heap.size (.slice od nd cd) dig) v1 v2 v3 v4 v5 v6 v7) (hB : B ≤ base) (hb : base ≤ W.heap.size) (hs : SortM s.got) (hl : s.got.length ≤ 1000) (ch seq : Int) :
    Calls Tryz.prog 36 #[v5, .agg #[.int .i64 ch, .int .i64 seq, .slice od nd cd]] W fun e w' => ∃ v', e = .returned v' ∧ W.grownBy w' v5.ownBlock ∧ StOwnM (fun b => b < N ∨ B ≤ b) base w' { s with got := withM s.got ⟨ch, seq, dig⟩ } (fun w2 => Bytes w2 w2.heap.size (.slice od nd cd) dig) v1 v2 v3 v4 v' v6 v7 := by
  obtain ⟨rs, hrow, hE, hput⟩ := h.putGot
  refine (with_any s.got ⟨ch, seq, dig⟩ od nd cd v5 base W rs hrow hE hs hl hb).mono ?_
  rintro e w' ⟨hg, v', rs', rfl, hrow', hn', hm'⟩
  exact ⟨v', rfl, hg, hput w' v' rs' _ hg hrow' hn' (fun b e => .inr (Nat.le_trans hB (RowT.own hrow' b e).1)) hm'⟩
/-- a mark more, whose digest is the piece more -/
theorem acks_more {N B : Nat} {W : World} {base : Nat} {s : St} {v1 v2 v3 v4 v5 v6 v7 : Value} (dig : List (BitVec 8)) (od : Option Addr) (nd cd : Nat) (h : StOwnM (fun b => b < N ∨ B ≤ b) base W s (fun w2 => Bytes w2 w2.heap.size (.slice od nd cd) dig) v1 v2 v3 v4 v5 v6 v7) (hB : B ≤ base) (hb : base ≤ W.heap.size) (hs : SortM s.acks) (hl : s.acks.length ≤ 1000) (ch seq : Int) :
    Calls Tryz.prog 36 #[v6, .agg #[.int .i64 ch, .int .i64 seq, .slice od nd cd]] W fun e w' => ∃ v', e = .returned v' ∧ W.grownBy w' v6.ownBlock ∧ StOwnM (fun b => b < N ∨ B ≤ b) base w' { s with acks := withM s.acks ⟨ch, seq, dig⟩ } (fun w2 => Bytes w2 w2.heap.size (.slice od nd cd) dig) v1 v2 v3 v4 v5 v' v7 := by
  obtain ⟨rs, hrow, hE, hput⟩ := h.putAcks
  refine (with_any s.acks ⟨ch, seq, dig⟩ od nd cd v6 base W rs hrow hE hs hl hb).mono ?_
  rintro e w' ⟨hg, v', rs', rfl, hrow', hn', hm'⟩
  exact ⟨v', rfl, hg, hput w' v' rs' _ hg hrow' hn' (fun b e => .inr (Nat.le_trans hB (RowT.own hrow' b e).1)) hm'⟩
/-- what Recv is to answer -/
def RecvC (f : FuncId) : Prop := ∀ (s : St) (v pv av hv2 : Value) (p : Pk) (ack : List (BitVec 8)) (h : Sh) (N : Nat) (w : World) (z : Int), StV w N v s → PkV w N pv p → Bytes w N av ack → ShV w N hv2 h → N ≤ w.heap.size → s.fits → h.fits → ack.length ≤ 140737488351232 → tableAt w → powAt w → askRecv s p h z →
  Calls Tryz.prog f #[v, pv, av, hv2] w fun e w' => Below w.heap.size w w' ∧ ∃ v', e = .returned (.tuple #[v', .int .i64 (recvN s p ack.length z)]) ∧ HoldsS N w.heap.size w' v' (recvS s p ack z)
theorem recvS_no {s : St} {p : Pk} {ack : List (BitVec 8)} {z : Int} (h : recvN s p ack.length z ≠ 0) : recvS s p ack z = St.none := if_neg h
theorem rcvrN_ok {s : St} {p : Pk} {n : Nat} (h : rcvrN s p n = 0) : wrongPk p = 0 ∧ cendL s p.dst [3] = 0 ∧ (s.got.length < 50 ∧ s.acks.length < 50) ∧ n ≤ 150 ∧ (chAt s p.dst).recv < 1000000000000 ∧ turnB s (chAt s p.dst) p = false ∧ (chAt s p.dst).ochan = p.src ∧ s.height < p.tmo := by
  unfold rcvrN at h
  split at h
  · rename_i h1; exact absurd h h1
  rename_i h1
  split at h
  · rename_i h2; exact absurd h h2
  rename_i h2
  split at h
  · cases h
  rename_i h3
  split at h
  · cases h
  rename_i h4
  split at h
  · cases h
  rename_i h5
  split at h
  · cases h
  rename_i h6
  exact ⟨by simpa using h1, by simpa using h2, by omega, by omega, by omega, by simpa using h5, by simpa using h3, by omega⟩
theorem powAt.past {w w' : World} (h : powAt w) (hb : Below w.heap.size w w') : powAt w' := h.below hb
set_option maxRecDepth 100000 in
set_option maxHeartbeats 4000000 in
theorem precvC : RecvC 14 := by
  intro s v pv av hv2 p ack h N w z hv hp ha hh hN hfit hhf hal htab hpow hz
  have HE := hid (show recvN s p ack.length z = if rcvrN s p ack.length ≠ 0 then rcvrN s p ack.length else z from rfl)
  obtain ⟨oa, ca, rfl, -⟩ := ha.shape
  have HRC := hid (fun W (hx : Below w.heap.size w W) => rcvr_any s p v pv oa ack.length ca N W (hv.below (hx.mono hN)) (hp.below (hx.mono hN)) (Nat.le_trans hN hx.size) hfit)
  have HCP := hid (fun W (hx : Below w.heap.size w W) (hfw : few s) => copyM s v N W (hv.below (hx.mono hN)) (Nat.le_trans hN hx.size) hfit hfw)
  have HTB := hid (fun W (hx : Below w.heap.size w W) => htab.past hx)
  have HPW := hid (fun W (hx : Below w.heap.size w W) => hpow.below hx)
  have HBA := hid (fun W (hx : Below w.heap.size w W) => ha.below (hx.mono hN))
  have HDG := hid (fun W (hx : Below w.heap.size w W) (hw : wrongPk p = 0) => pdigC p pv N W (htab.past hx) (hp.below (hx.mono hN)) (Nat.le_trans hN hx.size) hw)
  obtain ⟨o1, c1, o2, c2, o3, c3, o4, c4, o5, c5, o6, c6, o7, c7, rfl, hm⟩ := hv.open
  obtain ⟨odd, cdd, rfl, hdd⟩ := hp.open
  obtain ⟨q1, e1, q2, e2, q3, e3, r1, s1, r2, s2, r3, s3, r4, s4, r5, s5, r6, s6, rfl, hpv⟩ := hh.open
  have HPV := hid (fun W (hx : Below w.heap.size w W) => hpv.below (hx.mono hN))
  have HCF := hid hfit.2.1.2
  have HHF := hid hhf.1
  have HZZ := hid hz
  clear hv hp hh hm hdd hpv hfit hhf htab hpow ha hz
  go_enter Tryz.func14, Tryz.ntmps14
  go_upto_region 1 with fail
  refine fbox4 ?_
  intro w0 F0 hs0
  go_wp2_with (first | refine F0.load 0 rfl rfl rfl rfl structState ?_ | refine F0.load 1 rfl rfl rfl rfl structPacket ?_)
  refine (HRC.out w0 F0.b).mono ?_
  rintro e w1 ⟨hb1, ev, rfl, her⟩
  have F1 := F0.go hb1
  have HS1 := hid (show w.heap.size + 4 ≤ w1.heap.size by have := hb1.size; omega)
  obtain ⟨y0, y1, y2, y3, y4, y5, y6, y7, y8, y9, y10, hev, hone⟩ := her.cells
  subst hev
  have HER := hid her
  have HON := hid hone
  clear her hone hb1 F0 hs0 HRC
  go_upto_region 2 with (refine F1.storeNew rfl rfl rfl rfl structEnd rfl HON.out ?_; intro w2 F2 hb2)
  have HER2 := hid (HER.out.below (hb2.mono (Nat.le_trans hN F1.b.size)))
  clear HER HON hb2 F1
  by_cases hz : rcvrN s p ack.length = 0
  · have HE2 := hid (HE.out.trans (if_neg (by simp [hz])))
    obtain ⟨hwp, hce, hmny, hal2, hrl, -⟩ := rcvrN_ok hz
    obtain ⟨j, k, m, c, d, f, hij, hj, hca, hck, hd, hdm, hf, hfo, hwc, hwf, -⟩ := cendL_fol hce
    obtain ⟨ka, ma, hev, hfv⟩ := HER2.out.1 hz
    rw [hca, hfo] at hev
    rw [hfo] at hfv
    rw [hca] at hrl
    have HWS := hid (cendL_ok hce).1
    simp only [Value.agg.injEq, Array.mk.injEq, List.cons.injEq, and_true] at hev
    obtain ⟨rfl, rfl, rfl, rfl, rfl, rfl, rfl, rfl, rfl, rfl, rfl⟩ := hev
    rw [hz]
    have HFV := hid hfv
    have HJ := hid hj
    have HIJ := hid hij
    have HCA := hid hca
    have HWC := hid (wrongCh_ok hwc)
    have HWP := hid hwp
    have hpo := wrongPk_ok hwp
    have HAS := hid (show ShownN f s.time h.height (fun r => h.prf.key = keyL kwSent [p.src.toNat, p.seq.toNat] ∧ h.prf.val = digPk p ∧ shownB r h.prf) z by have := HZZ.out; unfold askRecv at this; rw [hfo] at this; exact this)
    have HFF := hid (HCF.out f (List.mem_of_getElem? hf))
    clear hz hij hj hca hck hd hdm hf hfo hwc hwf hfv HER2 HE hwp hce HZZ HCF
    go_wp2_with (refine F2.load 1 rfl rfl rfl rfl structPacket ?_)
    refine (HDG.out w2 F2.b HWP.out).mono ?_
    rintro e w3 ⟨dg, rfl, hown, hb3⟩
    obtain ⟨od, cd, rfl, -⟩ := hown.shape
    rw [digPk_length] at hown ⊢
    have F3 := F2.go hb3
    have HBY := hid hown.held
    have HFV3 := hid (HFV.out.below (hb3.mono (Nat.le_trans hN F2.b.size)))
    have hsz3 := hb3.size
    have hlt2 := F2.lts
    clear hown hb3 HDG HFV
    go_upto_region 5 with fail
    refine recvR5 (hid F3.r0) (hid F3.r1) (hid F3.r2) (hid F3.r4) (z := z) (key := keyL kwSent [p.src.toNat, p.seq.toNat]) (fun W hW => ?key) (fun W kv hW hk => ?mem) _ (hid ?_)
    case key =>
      refine (sentKey_any p.src p.seq (by omega) (by omega) W (HPW.out W (F3.go hW).b)).mono ?_
      rintro e w' ⟨u, rfl, ho, hb⟩
      exact ⟨u, rfl, ho.bytes, hb⟩
    case mem =>
      have hWN : N ≤ W.heap.size := Nat.le_trans hN (F3.go hW).b.size
      exact MemberC.z memberC f s.time h.height _ (digPk p) h.prf _ kv _ _ W.heap.size W (HTB.out W (F3.go hW).b) (Nat.le_refl _) ((HFV3.out.below (hW.mono (Nat.le_trans hN F3.b.size))).mono hWN) hk (HBY.out.below hW).now ((HPV.out W (F3.go hW).b).mono hWN) HFF.out (key_len2 (by decide) (by omega) (by omega)) (by rw [digPk_length]; decide) HHF.out HAS.out
    intro σ w4 hb4 e15
    rw [e15]
    have F4 := F3.go hb4
    have HBY4 := hid (HBY.out.below hb4)
    have hsz4 := hb4.size
    clear e15 hb4 F3 HBY HFV3 HAS HFF HPW HPV
    by_cases hz : z = 0
    · have HZN := hid (HE2.out.trans hz)
      rw [hz]
      clear hz HE2
      go_wp2_with (refine F4.load 0 rfl rfl rfl rfl structState ?_)
      refine (HCP.out w4 F4.b (wrongS_few HWS.out)).mono ?_
      rintro e w5 ⟨hb5, p1, d1, p2, d2, p3, d3, p4, d4, p5, d5, p6, d6, p7, d7, rfl, hown⟩
      have F5 := F4.go hb5
      have hg0 := F2.r0.lt
      have hg3 := F2.r3.lt
      have hsz5 := hb5.size
      have HO5 := hid (hown.wide (Z' := fun b => b < N ∨ w2.heap.size ≤ b) (fun b _ hb => hb.imp id (fun h => by omega)))
      have HBY5 := hid (HBY4.out.below hb5)
      clear hown hb5 HCP HBY4
      go_upto_region 9 with (refine F5.store 0 rfl rfl rfl rfl rfl structState rfl (by simp [Value.oneCell']) ?_; intro w6 F6 O6)
      have HO6 := hid (HO5.out.only O6 (by omega))
      have HBY6 := hid (show Held (fun b => w2.heap.size ≤ b ∧ b < w3.heap.size) w6 _ from HBY5.out.on O6.below fun b hF => O6.same b (by have := hF.1; omega))
      have hsz6 := O6.size
      clear O6 F5 HO5 HBY5 F4
      have hright := wrongS_right HWS.out
      have HSG := hid hright.got.2
      have HSK := hid hright.acks.2
      clear hright
      have hlt0 : ∀ g ∈ [w.heap.size, w.heap.size + 1, w.heap.size + 1 + 1, w.heap.size + 1 + 1 + 1, w1.heap.size], g < w4.heap.size := fun g hg => Nat.lt_of_lt_of_le (hlt2 g hg) (by omega)
      have ko := F6.r4.k11.2.1
      have k5 := F6.r0.k10.2.2.2.2.2.1
      have k7 := F6.r0.k10.2.2.2.2.2.2.2.1
      have z7 := F6.r0.frozen 7
      obtain ⟨m0, m1, m2, m3, m4⟩ := F6.r1.k5
      cases ho : c.ordered with
      | true =>
        rw [ho] at ko
        have HOR := hid ho
        clear ho
        obtain ⟨g, hpg, hgb, hgl, hcc, hfz⟩ := RowT.at HO6.out.chans (r := chCells c) (i := j) (by rw [List.getElem?_map, HJ.out]; rfl)
        subst hpg
        have f5 := hcc 5 _ rfl
        have z5 := hfz (j * 7 + 5)
        have hij := HIJ.out
        rw [hij] at m1
        have hlt : (j : Int) < (s.chans.length : Int) := by have := (List.getElem?_eq_some_iff.1 HJ.out).1; omega
        have hwr : IntKind.i64.wrap (c.recv + 1) = c.recv + 1 := by have := HWC.out; rw [IntKind.wrap_i64]; omega
        have hput := RowT.putCell HO6.out.chans (i := j) (j := 5) (x := .int .i64 (c.recv + 1)) (r := chCells c) (by rw [List.getElem?_map, HJ.out]; rfl) (by decide) rfl
        have hput' : OwnC 53 chCells 7 (w6.setCell ⟨g, j * 7 + 5, none⟩ (.int .i64 (c.recv + 1))) w4.heap.size (.slice (some ⟨g, 0, none⟩) s.chans.length d3) (s.chans.set j c.recv1) := by
          have e : (s.chans.map chCells).set j ((chCells c).set 5 (.int .i64 (c.recv + 1))) = (s.chans.set j c.recv1).map chCells := by rw [List.map_set]; rfl
          rw [e] at hput
          exact hput
        have hgr : w6.grownBy (w6.setCell ⟨g, j * 7 + 5, none⟩ (.int .i64 (c.recv + 1))) (some g) := grown_putCells w6 g (j * 7 + 5) [.int .i64 (c.recv + 1)]
        have HO7 := hid (HO6.out.putChans hgr hput' (fun b e => .inl e) (fun b e => .inr (by have := (RowT.own hput' b e).1; omega)))
        have hne : ∀ q ∈ [w.heap.size, w.heap.size + 1, w.heap.size + 1 + 1, w.heap.size + 1 + 1 + 1, w1.heap.size], q < g := fun q hq => Nat.lt_of_lt_of_le (hlt0 q hq) hgb
        have F7 := F6.past (w2 := w6.setCell ⟨g, j * 7 + 5, none⟩ (.int .i64 (c.recv + 1))) ((Below.refl g _).setCell (Nat.le_refl g) _) (by have := hne _ (.head _); omega) hne
        obtain ⟨w7, hw7⟩ : ∃ w7, w6.setCell ⟨g, j * 7 + 5, none⟩ (.int .i64 (c.recv + 1)) = w7 := ⟨_, rfl⟩
        have hsz7 : w7.heap.size = w6.heap.size := by rw [← hw7]; simp [World.setCell]
        rw [hw7] at HO7 F7
        have HW7 := hid hw7
        clear hw7 hput hput' hcc hfz HO6 HBY6 hgr hij
        go_upto_region 12 with fail
        refine at_world HW7.out ?_
        clear f5 z5 k5 k7 z7 m0 m1 m2 m3 m4 F6 hwr ko
        have HCE := hid (show ({ s with chans := s.chans.set j c.recv1 } : St) = setCh s p.dst c.recv1 by unfold setCh; rw [HIJ.out]; rfl)
        have HXO := hid (HO7.out.add (X := noX) (fun _ => False) ⟨fun _ h => h.elim, fun _ _ _ => trivial⟩ (fun _ h => h.elim) (fun _ h => h.elim))
        go_upto_region 12 with fail
        refine recvR12 (hid F7.r0) (hid F7.r1) (dig := sha ack) (fun W hW => ?sum)
          (fun v W => Fr w F7.list W ∧ StOwnM (fun b => b < N ∨ w2.heap.size ≤ b) w4.heap.size W { ({ s with chans := s.chans.set j c.recv1 } : St) with acks := withM s.acks ⟨p.dst, p.seq, sha ack⟩ } noX (.slice p1 s.clients.length d1) (.slice p2 s.conns.length d2) (.slice (some ⟨g, 0, none⟩) s.chans.length d3) (.slice p4 s.sent.length d4) (.slice p5 s.got.length d5) v (.slice p7 s.purses.length d7) ∧ ∃ o n c, v = .slice o n c)
          ?post (fun W od' cd' hW ho => ?wth) _ (hid ?_)
        case post => exact fun v W h => ⟨h.1.r0, h.2.2⟩
        case sum =>
          refine (sum_own ack _ N W (Nat.le_trans hN (F7.go hW).b.size) (HBA.out W (F7.go hW).b) (HTB.out W (F7.go hW).b) (by omega)).mono ?_
          rintro e w' ⟨x, rfl, ho, hb⟩
          obtain ⟨ox, cx, rfl, -⟩ := ho.shape
          rw [sha_length] at ho ⊢
          exact ⟨ox, cx, rfl, ho, hb⟩
        case wth =>
          have hob := HXO.out.own
          have hX := (HXO.out.below hW).add (X := fun w2 => Bytes w2 w2.heap.size (.slice od' 32 cd') (sha ack)) (fun b => w7.heap.size ≤ b ∧ b < W.heap.size) ho.held (fun b hF => .inr (by have := hF.1; omega)) (fun b hF i e => by have := (hob i b e).2; have := hF.1; omega)
          refine (acks_more (sha ack) od' 32 cd' hX (by omega) (by have := hW.size; omega) HSK.out (show s.acks.length ≤ 1000 by omega) p.dst p.seq).mono ?_
          rintro e w' ⟨v', rfl, hg, hown⟩
          refine ⟨v', rfl, (F7.go hW).grown hg fun b e => ⟨?_, fun g hg' => ?_⟩, (hown.add (X := noX) (fun _ => False) ⟨fun _ h => h.elim, fun _ _ _ => trivial⟩ (fun _ h => h.elim) (fun _ h => h.elim)), ?_⟩
          · have := (hob 6 b e).1; omega
          · have := hlt0 g hg'
            have := (hob 6 b e).1
            omega
          · obtain ⟨o, cp, h, -⟩ := hown.mem.acks.shape
            exact ⟨_, _, _, h⟩
        intro σ W9 ⟨FW, hown, o, n, cc, hv9⟩
        dsimp only [Fr.list] at FW
        have F20 := FW.set1 0 8 (σ 9) rfl
        have O20 := (Only.refl w.heap.size W9).cell 8 (σ 9)
        have HO20 := hid (hown.only O20 (by omega))
        rw [hv9] at F20 HO20 ⊢
        clear O20 hown FW hv9
        generalize W9.setCell ⟨w.heap.size, 8, none⟩ (.slice o n cc) = w20 at *
        go_wp2_with (first | refine F20.load 0 rfl rfl rfl rfl structState ?_ | (refine F20.store 3 rfl rfl rfl rfl rfl structState rfl (by simp [Value.oneCell']) ?_; intro w21 F21 O21))
        refine ret_ct Tryz.results14 rfl F21.r3 structState rfl ⟨F21.b, _, by rw [HZN.out]; rfl, ?_⟩
        have hgr : recvS s p ack z = { ({ s with chans := s.chans.set j c.recv1 } : St) with acks := withM s.acks ⟨p.dst, p.seq, sha ack⟩ } := by
          unfold recvS
          rw [if_pos HZN.out]
          unfold gotS
          rw [HCA.out, if_pos HOR.out, ← HCE.out]
          first | done | rfl
        rw [hgr]
        exact (HO20.out.only O21 (by omega)).holds (fun b hb => hb.imp id (fun h => by omega))
      | false =>
        rw [ho] at ko
        have HOR := hid ho
        clear ho
        have hob := HO6.out.own
        have HX6 := hid (HO6.out.add (X := fun w2 => Bytes w2 w2.heap.size (.slice od 32 cd) (digPk p)) (fun b => w2.heap.size ≤ b ∧ b < w3.heap.size) HBY6.out (fun b hF => .inr hF.1) (fun b hF i e => by have := (hob i b e).1; have := hF.2; omega))
        go_wp2_with fail
        refine (got_more (digPk p) od 32 cd HX6.out (by omega) (by omega) HSG.out (by omega) p.dst p.seq).mono ?_
        rintro e w7 ⟨v5, rfl, hg7, hown7⟩
        obtain ⟨og, cg, hvg, -⟩ := hown7.mem.got.shape
        generalize (({ s with got := withM s.got ⟨p.dst, p.seq, digPk p⟩ } : St).got).length = ngot at hvg
        subst hvg
        have F7 := F6.grown hg7 fun b e => ⟨by have := (hob 5 b e).1; omega, fun g hg' => by have := hlt0 g hg'; have := (hob 5 b e).1; omega⟩
        have HO7 := hid hown7
        have hsz7 := hg7.size
        clear hg7 hown7 HX6 HO6 HBY6 k5 k7 z7 m0 m1 m2 m3 m4 F6 ko hob
        have k7 := F7.r0.k10.2.2.2.2.2.2.2.1
        have z7 := F7.r0.frozen 7
        go_upto_region 12 with fail
        refine F7.cell 0 rfl ?_
        intro w8 F8 O8
        have HO8 := hid (HO7.out.only O8 (by omega))
        have hsz8 := O8.size
        clear k7 z7 O8 F7 HO7
        have HXO := hid (HO8.out.add (X := noX) (fun _ => False) ⟨fun _ h => h.elim, fun _ _ _ => trivial⟩ (fun _ h => h.elim) (fun _ h => h.elim))
        refine recvR12 (hid F8.r0) (hid F8.r1) (dig := sha ack) (fun W hW => ?sum)
          (fun v W => Fr w F8.list W ∧ StOwnM (fun b => b < N ∨ w2.heap.size ≤ b) w4.heap.size W { ({ s with got := withM s.got ⟨p.dst, p.seq, digPk p⟩ } : St) with acks := withM s.acks ⟨p.dst, p.seq, sha ack⟩ } noX (.slice p1 s.clients.length d1) (.slice p2 s.conns.length d2) (.slice p3 s.chans.length d3) (.slice p4 s.sent.length d4) (.slice og ngot cg) v (.slice p7 s.purses.length d7) ∧ ∃ o n c, v = .slice o n c)
          ?post (fun W od' cd' hW ho => ?wth) _ (hid ?_)
        case post => exact fun v W h => ⟨h.1.r0, h.2.2⟩
        case sum =>
          refine (sum_own ack _ N W (Nat.le_trans hN (F8.go hW).b.size) (HBA.out W (F8.go hW).b) (HTB.out W (F8.go hW).b) (by omega)).mono ?_
          rintro e w' ⟨x, rfl, ho, hb⟩
          obtain ⟨ox, cx, rfl, -⟩ := ho.shape
          rw [sha_length] at ho ⊢
          exact ⟨ox, cx, rfl, ho, hb⟩
        case wth =>
          have hob := HXO.out.own
          have hX := (HXO.out.below hW).add (X := fun w2 => Bytes w2 w2.heap.size (.slice od' 32 cd') (sha ack)) (fun b => w8.heap.size ≤ b ∧ b < W.heap.size) ho.held (fun b hF => .inr (by have := hF.1; omega)) (fun b hF i e => by have := (hob i b e).2; have := hF.1; omega)
          refine (acks_more (sha ack) od' 32 cd' hX (by omega) (by have := hW.size; omega) HSK.out (show s.acks.length ≤ 1000 by omega) p.dst p.seq).mono ?_
          rintro e w' ⟨v', rfl, hg, hown⟩
          refine ⟨v', rfl, (F8.go hW).grown hg fun b e => ⟨?_, fun g hg' => ?_⟩, (hown.add (X := noX) (fun _ => False) ⟨fun _ h => h.elim, fun _ _ _ => trivial⟩ (fun _ h => h.elim) (fun _ h => h.elim)), ?_⟩
          · have := (hob 6 b e).1; omega
          · have := hlt0 g hg'
            have := (hob 6 b e).1
            omega
          · obtain ⟨o, cp, h, -⟩ := hown.mem.acks.shape
            exact ⟨_, _, _, h⟩
        intro σ W9 ⟨FW, hown, o, n, cc, hv9⟩
        dsimp only [Fr.list] at FW
        have F20 := FW.set1 0 8 (σ 9) rfl
        have O20 := (Only.refl w.heap.size W9).cell 8 (σ 9)
        have HO20 := hid (hown.only O20 (by omega))
        rw [hv9] at F20 HO20 ⊢
        clear O20 hown FW hv9
        generalize W9.setCell ⟨w.heap.size, 8, none⟩ (.slice o n cc) = w20 at *
        go_wp2_with (first | refine F20.load 0 rfl rfl rfl rfl structState ?_ | (refine F20.store 3 rfl rfl rfl rfl rfl structState rfl (by simp [Value.oneCell']) ?_; intro w21 F21 O21))
        refine ret_ct Tryz.results14 rfl F21.r3 structState rfl ⟨F21.b, _, by rw [HZN.out]; rfl, ?_⟩
        have hgr : recvS s p ack z = { ({ s with got := withM s.got ⟨p.dst, p.seq, digPk p⟩ } : St) with acks := withM s.acks ⟨p.dst, p.seq, sha ack⟩ } := by
          unfold recvS
          rw [if_pos HZN.out]
          unfold gotS
          rw [HCA.out, if_neg (by simp [HOR.out])]
          first | done | rfl
        rw [hgr]
        exact (HO20.out.only O21 (by omega)).holds (fun b hb => hb.imp id (fun h => by omega))
    · have HL := hid HE2.out
      have HNZ := hid (show recvN s p ack.length z ≠ 0 by rw [HE2.out]; exact hz)
      have e0 : (z != 0) = true := by simpa using hz
      clear hz
      go_wp2_with (refine F4.store 3 rfl rfl rfl rfl rfl structState rfl (by simp [Value.oneCell']) ?_; intro wz FZ OZ)
      refine ret_ct Tryz.results14 rfl FZ.r3 structState rfl ⟨FZ.b, _, by rw [HL.out]; rfl, ?_⟩
      rw [recvS_no HNZ.out]
      exact holdsS_none _ _ _
  · have HL := hid (HE.out.trans (if_pos hz))
    have HNZ := hid (show recvN s p ack.length z ≠ 0 by rw [HL.out]; exact hz)
    have e0 : (rcvrN s p ack.length != 0) = true := by simpa using hz
    clear hz
    go_wp2_with (refine F2.store 3 rfl rfl rfl rfl rfl structState rfl (by simp [Value.oneCell']) ?_; intro wz FZ OZ)
    refine ret_ct Tryz.results14 rfl FZ.r3 structState rfl ⟨FZ.b, _, by rw [HL.out]; rfl, ?_⟩
    rw [recvS_no HNZ.out]
    exact holdsS_none _ _ _
end Go.Proofs.YtclhcjiblfokaaaGreatDoor
