/-
  A packet's digest.
-/
import Derived.Test.YtclhcjiblfokaaaGreatDoorppPkKit
import Derived.Test.YtclhcjiblfokaaaGreatDoorppHdCheck
import Derived.Test.YtclhcjiblfokaaaGreatDoorppRef1All
import Derived.Test.YtclhcjiblfokaaaGreatDoorppSameB
import Derived.Test.YtclhcjiblfokaaaGreatDoorppRegions
namespace Go.Proofs.YtclhcjiblfokaaaGreatDoor
open Go.RowKit

set_option maxRecDepth 100000 in
set_option maxHeartbeats 4000000 in
theorem pnumber_any (n : Nat) (hn : n < 9223372036854775808) (w : World) : Calls Tryz.prog 26 #[.int .i64 (n : Int)] w fun e w' => e = .returned (.agg #[.int .i64 1, .int .u64 (n : Int), .slice none 0 0]) ∧ Below w.heap.size w w' := by
  have hw := wrap64 n (by omega)
  obtain ⟨w0, hw0⟩ : ∃ w0, w.alloc (.cells #[.int .i64 0, .int .u64 0, .slice none 0 0] 71) = w0 := ⟨_, rfl⟩
  have HB0 := hid (show Below w.heap.size w w0 by rw [← hw0]; exact (Below.refl _ _).alloc (Nat.le_refl _) _)
  have HR0 := hid (show Row w0 w.heap.size 71 [.int .i64 0, .int .u64 0, .slice none 0 0] by rw [← hw0]; exact Row.new _ _ _)
  obtain ⟨c0, c1, c2, z0, z1, z2⟩ := HR0.out.three
  go_enter Tryz.func26, Tryz.ntmps26
  go_wp2
  obtain ⟨d0, d1, d2⟩ := HR0.out.set3 (.int .i64 1) (.int .u64 (n : Int)) (.slice none 0 0)
  exact bodyPost_ret (v := .agg #[.int .i64 1, .int .u64 (n : Int), .slice none 0 0]) (by simp [results, Tryz.results26, go_sem, d0, d1, d2]) rfl ⟨rfl, below_set3 HB0.out (Nat.le_refl _) _ _ _⟩
def DigPC (f : FuncId) : Prop := ∀ (p : Pk) (v : Value) (N : Nat) (w : World), tableAt w → PkV w N v p → N ≤ w.heap.size → wrongPk p = 0 → Calls Tryz.prog f #[v] w fun e w' => ∃ x, e = .returned x ∧ OwnB w' w.heap.size x (digPk p) ∧ Below w.heap.size w w'
theorem sum_own (l : List (BitVec 8)) (sv : Value) (N : Nat) (w : World) (hN : N ≤ w.heap.size) (hb : Bytes w N sv l) (hK : tableAt w) (hlen : l.length < 2305843009213693952) :
    Calls Tryz.prog 27 #[sv] w fun e w' => ∃ v, e = .returned v ∧ OwnB w' w.heap.size v (sha l) ∧ Below w.heap.size w w' := by
  refine (sum_any l sv N w hN hb hK hlen).mono ?_
  rintro e w' ⟨v, rfl, h, hb⟩
  refine ⟨v, rfl, ?_, hb⟩
  unfold OwnB
  rw [sha_length]
  exact h
theorem ownsB_mono {w : World} {base base' : Nat} {v : Value} {l : List (BitVec 8)} (h : OwnB w base v l) (hb : base' ≤ base) : OwnB w base' v l := by
  obtain ⟨h1, h2⟩ := h
  refine ⟨h1, ?_⟩
  rcases h2 with h2 | ⟨g, cap, cur, h3, h4, h5⟩
  · exact .inl h2
  · exact .inr ⟨g, cap, cur, h3, Nat.le_trans hb h4, h5⟩
set_option maxRecDepth 100000 in
set_option maxHeartbeats 4000000 in
theorem pdigR {y0 y2 y25 y26 z3 z4 z5 z6 z7 z8 z9 z10 z11 z12 z13 z14 z15 z16 z17 z18 z19 z20 z21 z22 z23 z24 : Value} {gp a b q t cd : Nat} {od : Option Addr} {l x : List (BitVec 8)} {w : World} (hgp : Hid (Row w gp 31 [.int .i64 (a : Int), .int .i64 (b : Int), .int .i64 (q : Int), .slice od l.length cd, .int .i64 (t : Int)])) (hd : Hid (Bytes w w.heap.size (.slice od l.length cd) l)) (hx : Hid (wrAll [⟨1, a, []⟩, ⟨1, b, []⟩, ⟨1, q, []⟩, ⟨2, 0, l⟩, ⟨1, t, []⟩] = .ok x)) (hfit : Hid (∀ p ∈ ([⟨1, a, []⟩, ⟨1, b, []⟩, ⟨1, q, []⟩, ⟨2, 0, l⟩, ⟨1, t, []⟩] : List Pc), p.fits)) (hna : ∀ W, Below w.heap.size w W → Calls Tryz.prog 26 #[.int .i64 (a : Int)] W fun e w' => e = .returned (.agg #[.int .i64 1, .int .u64 (a : Int), .slice none 0 0]) ∧ Below W.heap.size W w') (hnb : ∀ W, Below w.heap.size w W → Calls Tryz.prog 26 #[.int .i64 (b : Int)] W fun e w' => e = .returned (.agg #[.int .i64 1, .int .u64 (b : Int), .slice none 0 0]) ∧ Below W.heap.size W w') (hnq : ∀ W, Below w.heap.size w W → Calls Tryz.prog 26 #[.int .i64 (q : Int)] W fun e w' => e = .returned (.agg #[.int .i64 1, .int .u64 (q : Int), .slice none 0 0]) ∧ Below W.heap.size W w') (hnt : ∀ W, Below w.heap.size w W → Calls Tryz.prog 26 #[.int .i64 (t : Int)] W fun e w' => e = .returned (.agg #[.int .i64 1, .int .u64 (t : Int), .slice none 0 0]) ∧ Below W.heap.size W w') (Q : Exit → Act → World → Prop)
    (hQ : Hid (∀ (σ : Nat → Value) (w' : World), Below w.heap.size w w' → Bytes w' w'.heap.size (σ 21) x → Q .normal ⟨#[y0, .pointer (some ⟨gp, 0, none⟩), y2, σ 21, σ 20, σ 17, σ 0, σ 1, σ 2, σ 3, σ 4, σ 5, σ 6, σ 7, σ 8, σ 9, σ 10, σ 11, σ 12, σ 13, σ 14, σ 15, σ 16, σ 18, σ 19, y25, y26], []⟩ w')) :
    Code.wp Tryz.prog (.region 1 ((Tryz.f9.body.bind (regOf 1)).getD #[]) true) Q ⟨#[y0, .pointer (some ⟨gp, 0, none⟩), y2, z3, z4, z5, z6, z7, z8, z9, z10, z11, z12, z13, z14, z15, z16, z17, z18, z19, z20, z21, z22, z23, z24, y25, y26], []⟩ w := by
  conv => arg 2; arg 2; whnf
  conv => arg 4; dsimp only
  refine region_grows (by kernel_rfl) (fun σ => #[y0, .pointer (some ⟨gp, 0, none⟩), y2, σ 21, σ 20, σ 17, σ 0, σ 1, σ 2, σ 3, σ 4, σ 5, σ 6, σ 7, σ 8, σ 9, σ 10, σ 11, σ 12, σ 13, σ 14, σ 15, σ 16, σ 18, σ 19, y25, y26]) (fun i => ([z6, z7, z8, z9, z10, z11, z12, z13, z14, z15, z16, z17, z18, z19, z20, z21, z22, z5, z23, z24, z4, z3, undef] : List Value).getD i undef) rfl (fun i X W => match i with
    | 0 => X = .pointer (some ⟨gp, 0, none⟩)
    | 1 => X = .int .i64 (a : Int)
    | 2 => X = .agg #[.int .i64 1, .int .u64 (a : Int), .slice none 0 0]
    | 3 => X = .pointer (some ⟨gp, 1, none⟩)
    | 4 => X = .int .i64 (b : Int)
    | 5 => X = .agg #[.int .i64 1, .int .u64 (b : Int), .slice none 0 0]
    | 6 => X = .pointer (some ⟨gp, 2, none⟩)
    | 7 => X = .int .i64 (q : Int)
    | 8 => X = .agg #[.int .i64 1, .int .u64 (q : Int), .slice none 0 0]
    | 9 => X = .pointer (some ⟨gp, 3, none⟩)
    | 10 => X = .slice od l.length cd
    | 11 => X = .agg #[.int .i64 2, .int .u64 0, .slice od l.length cd]
    | 12 => X = .pointer (some ⟨gp, 4, none⟩)
    | 13 => X = .int .i64 (t : Int)
    | 14 => X = .agg #[.int .i64 1, .int .u64 (t : Int), .slice none 0 0]
    | 15 => Pieces W W.heap.size X [⟨1, a, []⟩, ⟨1, b, []⟩, ⟨1, q, []⟩, ⟨2, 0, l⟩, ⟨1, t, []⟩]
    | 16 => ∃ v, X = .tuple #[v, .agg #[.int .i64 0, .int .i64 0]] ∧ Bytes W W.heap.size v x
    | 17 => ∃ v, X = .tuple #[v, .agg #[.int .i64 0, .int .i64 0]] ∧ Bytes W W.heap.size v x
    | 18 => Bytes W W.heap.size X x
    | 19 => X = .agg #[.int .i64 0, .int .i64 0]
    | 20 => ∃ k, X = .pointer (some ⟨k, 0, none⟩) ∧ Row W k 66 [.int .i64 0, .int .i64 0]
    | 21 => Bytes W W.heap.size X x
    | 22 => True
    | _ => True) ?_ (by kernel_rfl) ?_ ?_
  · intro i X W W' HB H
    iterate 23 (obtain _ | i := i; first | exact H | exact (H.below HB).mono HB.size | exact (by obtain ⟨v, h1, h2⟩ := H; exact ⟨v, h1, (h2.below HB).mono HB.size⟩) | exact (by obtain ⟨k, h1, h2⟩ := H; exact ⟨k, h1, h2.below HB h2.lt⟩) | exact trivial)
    exact H
  · refine ⟨?_, ?_, ?_, ?_, ?_, ?_, ?_, ?_, ?_, ?_, ?_, ?_, ?_, ?_, ?_, ?_, ?_, ?_, ?_, ?_, ?_, ?_, ?_, trivial⟩
    all_goals (intro σ W HJ hdep; simp [Region.binds] at hdep; have HJ := hid HJ; obtain ⟨gpk0, gpk1, gpk2, gpk3, gpk4⟩ := (hgp.out.below HJ.out hgp.out.lt).k5)
    · refine wpOp_plain rfl rfl ?_; go_simp; exact Left.mk0 _ (by first | rfl | simp [updF, *]) HJ.out rfl
    · refine wpOp_plain rfl rfl ?_; go_simp; exact Left.mk0 _ (by first | rfl | simp [updF, *]) HJ.out rfl
    · have HC := hid (hna W HJ.out); refine wpOp_plain rfl rfl ?_; go_simp; refine HC.out.mono ?_; rintro e w2 ⟨rfl, hb⟩; exact Left.mk _ (by first | rfl | simp [updF, *]) hb HJ.out rfl
    · refine wpOp_plain rfl rfl ?_; go_simp; exact Left.mk0 _ (by first | rfl | simp [updF, *]) HJ.out rfl
    · refine wpOp_plain rfl rfl ?_; go_simp; exact Left.mk0 _ (by first | rfl | simp [updF, *]) HJ.out rfl
    · have HC := hid (hnb W HJ.out); refine wpOp_plain rfl rfl ?_; go_simp; refine HC.out.mono ?_; rintro e w2 ⟨rfl, hb⟩; exact Left.mk _ (by first | rfl | simp [updF, *]) hb HJ.out rfl
    · refine wpOp_plain rfl rfl ?_; go_simp; exact Left.mk0 _ (by first | rfl | simp [updF, *]) HJ.out rfl
    · refine wpOp_plain rfl rfl ?_; go_simp; exact Left.mk0 _ (by first | rfl | simp [updF, *]) HJ.out rfl
    · have HC := hid (hnq W HJ.out); refine wpOp_plain rfl rfl ?_; go_simp; refine HC.out.mono ?_; rintro e w2 ⟨rfl, hb⟩; exact Left.mk _ (by first | rfl | simp [updF, *]) hb HJ.out rfl
    · refine wpOp_plain rfl rfl ?_; go_simp; exact Left.mk0 _ (by first | rfl | simp [updF, *]) HJ.out rfl
    · refine wpOp_plain rfl rfl ?_; go_simp; exact Left.mk0 _ (by first | rfl | simp [updF, *]) HJ.out rfl
    · refine wpOp_plain rfl rfl ?_; go_simp; exact Left.mk0 _ (by first | rfl | simp [updF, *]) HJ.out rfl
    · refine wpOp_plain rfl rfl ?_; go_simp; exact Left.mk0 _ (by first | rfl | simp [updF, *]) HJ.out rfl
    · refine wpOp_plain rfl rfl ?_; go_simp; exact Left.mk0 _ (by first | rfl | simp [updF, *]) HJ.out rfl
    · have HC := hid (hnt W HJ.out); refine wpOp_plain rfl rfl ?_; go_simp; refine HC.out.mono ?_; rintro e w2 ⟨rfl, hb⟩; exact Left.mk _ (by first | rfl | simp [updF, *]) hb HJ.out rfl
    · have hbn : Below W.heap.size W (W.alloc (.cells #[.int .i64 1, .int .u64 (a : Int), .slice none 0 0, .int .i64 1, .int .u64 (b : Int), .slice none 0 0, .int .i64 1, .int .u64 (q : Int), .slice none 0 0, .int .i64 2, .int .u64 0, .slice od l.length cd, .int .i64 1, .int .u64 (t : Int), .slice none 0 0] 71)) := (Below.refl _ _).alloc (Nat.le_refl _) _
      have HBN := hid hbn
      clear hbn
      refine wpOp_plain rfl rfl ?_
      go_simp
      refine Left.mk (.slice (some ⟨W.heap.size, 0, none⟩) 5 5) (by first | rfl | simp [updF, *]) HBN.out HJ.out ?_
      exact pieces_new W 71 [(⟨1, a, []⟩, .slice none 0 0), (⟨1, b, []⟩, .slice none 0 0), (⟨1, q, []⟩, .slice none 0 0), (⟨2, 0, l⟩, .slice od l.length cd), (⟨1, t, []⟩, .slice none 0 0)] (by
        intro x hx
        simp at hx
        rcases hx with rfl | rfl | rfl | rfl | rfl
        · exact .inl ⟨rfl, rfl⟩
        · exact .inl ⟨rfl, rfl⟩
        · exact .inl ⟨rfl, rfl⟩
        · exact (hd.out.below HJ.out).mono HJ.out.size
        · exact .inl ⟨rfl, rfl⟩)
    · have HC := hid (write_any _ _ W.heap.size W (by first | exact hdep | exact hdep.1) (Nat.le_refl _) (by simp) hfit.out)
      clear hdep
      refine wpOp_plain rfl rfl ?_
      go_simp
      refine HC.out.mono ?_
      rintro e w2 ⟨hb2, h2⟩
      have h3 : ∃ v, e = .returned (.tuple #[v, okV]) ∧ OwnB w2 W.heap.size v x := by
        rcases h2 with ⟨x2, v, hx2, he, ho⟩ | ⟨c, i, hx2, _⟩
        · rw [hx.out] at hx2; cases hx2; exact ⟨v, he, ho⟩
        · rw [hx.out] at hx2; cases hx2
      obtain ⟨v, rfl, ho⟩ := h3
      exact Left.mk (.tuple #[v, .agg #[.int .i64 0, .int .i64 0]]) (by first | rfl | simp [updF, *]) hb2 HJ.out ⟨v, rfl, ho.bytes⟩
    · obtain ⟨v, e1, h2⟩ := hdep
      have H2 := hid h2
      clear h2
      refine wpOp_plain rfl rfl ?_
      go_simp
      exact Left.mk0 (.tuple #[v, .agg #[.int .i64 0, .int .i64 0]]) (by first | rfl | simp [updF, *]) HJ.out ⟨v, rfl, H2.out⟩
    · obtain ⟨v, e1, h2⟩ := hdep
      have H2 := hid h2
      clear h2
      refine wpOp_plain rfl rfl ?_
      go_simp
      exact Left.mk0 v (by first | rfl | simp [updF, *]) HJ.out H2.out
    · obtain ⟨v, e1, h2⟩ := hdep
      clear h2
      refine wpOp_plain rfl rfl ?_
      go_simp
      exact Left.mk0 (.agg #[.int .i64 0, .int .i64 0]) (by first | rfl | simp [updF, *]) HJ.out rfl
    · refine wpOp_plain rfl rfl ?_
      go_simp
      exact Left.mk (.pointer (some ⟨W.heap.size, 0, none⟩)) (by first | rfl | simp [updF, *]) ((Below.refl _ _).alloc (Nat.le_refl _) _) HJ.out ⟨W.heap.size, rfl, Row.new _ _ _⟩
    · have HD := hid hdep
      clear hdep
      refine wpOp_plain rfl rfl ?_
      go_simp
      exact Left.mk0 (σ 18) (by first | rfl | simp [updF, *]) HJ.out (by first | exact HD.out | exact HD.out.1 | exact HD.out.2)
    · obtain ⟨⟨k, e1, hrow⟩, e2⟩ := hdep
      obtain ⟨q0, q1, z0, z1⟩ := hrow.two
      have s0 := setCell_same hrow (i := 0) rfl
      have s1 := setCell_same hrow (i := 1) rfl
      clear hrow
      refine wpOp_plain rfl rfl ?_
      go_simp
      exact Left.mk0 undef (by first | rfl | simp [updF, *]) HJ.out trivial
  · intro σ w' hb hg
    exact hQ.out σ w' hb (hg 21 (by decide))
set_option maxRecDepth 100000 in
set_option maxHeartbeats 4000000 in
theorem pdigC : DigPC 9 := by
  intro p v N w htab hv hN hw
  obtain ⟨f1, f2, f3, f4, f5⟩ := wrongPk_ok hw
  obtain ⟨HX0, hx1, hx2⟩ := pk_wr hw
  obtain ⟨od, cd, rfl, hd⟩ := hv.open
  obtain ⟨a, b, q, l, t⟩ := p
  simp only at f1 f2 f3 f4 f5 hd
  obtain ⟨a, rfl⟩ : ∃ n : Nat, a = (n : Int) := ⟨a.toNat, by omega⟩
  obtain ⟨b, rfl⟩ : ∃ n : Nat, b = (n : Int) := ⟨b.toNat, by omega⟩
  obtain ⟨q, rfl⟩ : ∃ n : Nat, q = (n : Int) := ⟨q.toNat, by omega⟩
  obtain ⟨t, rfl⟩ : ∃ n : Nat, t = (n : Int) := ⟨t.toNat, by omega⟩
  have HX := hid (show wrAll [⟨1, a, []⟩, ⟨1, b, []⟩, ⟨1, q, []⟩, ⟨2, 0, l⟩, ⟨1, t, []⟩] = .ok (pkB ⟨(a : Int), (b : Int), (q : Int), l, (t : Int)⟩) from HX0)
  have HFIT := hid (show ∀ p ∈ ([⟨1, a, []⟩, ⟨1, b, []⟩, ⟨1, q, []⟩, ⟨2, 0, l⟩, ⟨1, t, []⟩] : List Pc), p.fits from hx2)
  have HDG := hid (show digPk ⟨(a : Int), (b : Int), (q : Int), l, (t : Int)⟩ = sha (pkB ⟨(a : Int), (b : Int), (q : Int), l, (t : Int)⟩) from rfl)
  generalize pkB ⟨(a : Int), (b : Int), (q : Int), l, (t : Int)⟩ = x at *
  have HD := hid hd
  have HT := hid htab
  have HN := hid hN
  clear HX0 hx2 hd htab hv hw
  simp only
  go_enter Tryz.func9, Tryz.ntmps9
  go_upto_region 1 with fail
  refine fbox1 ?_
  intro w0 F hs
  refine pdigR (hid F.r0) (hid ((HD.out.below (F.b.mono HN.out)).mono (Nat.le_trans HN.out F.b.size))) HX HFIT (fun W _ => pnumber_any a (by omega) W) (fun W _ => pnumber_any b (by omega) W) (fun W _ => pnumber_any q (by omega) W) (fun W _ => pnumber_any t (by omega) W) _ (hid ?_)
  intro σ w1 hb1 hb
  have F1 := F.go hb1
  obtain ⟨ox, cx, hxe, -⟩ := hb.shape
  rw [hxe] at hb ⊢
  have HSU := hid (sum_own x _ w1.heap.size w1 (Nat.le_refl _) hb (HT.out.past F1.b) (by omega))
  have HB1 := hid F1.b
  clear hb hb1 hxe F F1 hs
  generalize x.length = nx at *
  go_wp2_with fail
  refine HSU.out.mono ?_
  rintro e w2 ⟨v, rfl, ho, hb2⟩
  have HO := hid ho
  have HB2 := hid hb2
  clear ho hb2
  go_wp2
  go_ret
  exact ⟨_, rfl, by rw [HDG.out]; exact ownsB_mono HO.out HB1.out.size, HB1.out.trans (HB2.out.mono HB1.out.size)⟩
end Go.Proofs.YtclhcjiblfokaaaGreatDoor
