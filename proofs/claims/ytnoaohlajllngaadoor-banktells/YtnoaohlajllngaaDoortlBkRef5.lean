/-
  The document's Bytes of a transfer.
-/
import Derived.Test.YtnoaohlajllngaaDoortlBkPack
namespace Go.Proofs.YtnoaohlajllngaaDoor
open Go.RowKit

set_option maxRecDepth 100000 in
set_option maxHeartbeats 4000000 in
theorem rpieces_any (l : List Pc) (sv : Value) (N : Nat) (w : World) (hb : Pieces w N sv l) (hN : N ≤ w.heap.size) (hlen : l.length < 2305843009213693952) (hfit : ∀ p ∈ l, p.fits) :
    Calls Tryd.prog 43 #[sv] w fun e w' => ∃ v, e = .returned v ∧ Below w.heap.size w w' ∧ ByB (match wrAll l with | .ok x => x | .error _ => []) v w' := by
  cases hx : wrAll l with
  | ok x =>
    refine (refPieces_any l x sv N w hb hN hlen hfit hx).mono ?_
    rintro e w' ⟨v, rfl, hv, hw⟩
    obtain ⟨o, c, rfl, -⟩ := hv.shape
    exact ⟨_, rfl, hw, o, _, c, rfl, hv⟩
  | error e0 =>
    have HC := hid (refWrite_any l sv N w hb hN hlen hfit)
    have HX := hid hx
    obtain ⟨oa, ca, rfl, hca⟩ := hb.shape
    clear hb hfit hx hlen hca
    generalize l.length = n at *
    go_enter Tryd.func43, Tryd.ntmps43
    go_wp2_with fail
    refine HC.out.mono ?_
    rintro e w1 ⟨hb1, h1⟩
    have h2 : ∃ (c i : Int), e = .returned (.tuple #[.slice none 0 0, .agg #[.int .i64 c, .int .i64 i]]) := by
      rcases h1 with ⟨x', v, hx', he, ho⟩ | ⟨c, i, hx', he⟩
      · rw [HX.out] at hx'
        cases hx'
      · exact ⟨c, i, he⟩
    obtain ⟨c, i, rfl⟩ := h2
    have HB1 := hid hb1
    clear h1 hb1 HC
    obtain ⟨w2, hw2⟩ : ∃ w2, w1.alloc (.cells #[.int .i64 0, .int .i64 0] 57) = w2 := ⟨_, rfl⟩
    have HB2 := hid (show Below w1.heap.size w1 w2 by rw [← hw2]; exact (Below.refl _ _).alloc (Nat.le_refl _) _)
    have HR2 := hid (show Row w2 w1.heap.size 57 [.int .i64 0, .int .i64 0] by rw [← hw2]; exact Row.new _ _ _)
    obtain ⟨c0, c1, z0, z1⟩ := HR2.out.two
    have HSZ := hid HB1.out.size
    go_wp2
    go_ret
    have hbz := below_set2 HB2.out (Nat.le_refl _) (.int .i64 c) (.int .i64 i)
    exact ⟨_, rfl, HB1.out.trans (hbz.mono HSZ.out), none, 0, 0, rfl, .inl ⟨rfl, rfl⟩⟩
set_option maxRecDepth 100000 in
set_option maxHeartbeats 4000000 in
theorem rbytesT_any (t : Tr) (w : World) (ht : t.fits) : Calls Tryd.prog 8 #[.agg #[.string t.denom, .int .u64 (t.amount : Int), .string t.sender, .string t.reader]] w fun e w' => Below w.heap.size w w' ∧ ∃ v, e = .returned v ∧ Bytes w' w'.heap.size v (bytesT t) := by
  have HTB := hid (fun o n c s W (h : Bytes W W.heap.size (.slice o n c) s) => (refB o n c W).mono (R' := fun e W' => ∃ v, e = .returned v ∧ Below W.heap.size W W' ∧ PcB s v W') (by rintro e W' ⟨rfl, hb⟩; exact ⟨_, rfl, hb, o, n, c, rfl, (h.below hb).mono hb.size⟩))
  have HWR := hid (show ∀ v W, Pieces W W.heap.size v (trPcs t) → Calls Tryd.prog 43 #[v] W fun e W' => ∃ x, e = .returned x ∧ Below W.heap.size W W' ∧ ByB (bytesT t) x W' from fun v W hp => rpieces_any (trPcs t) v W.heap.size W hp (Nat.le_refl _) (by simp [trPcs]) (by
      intro p hp
      obtain ⟨h1, h2, h3, h4⟩ := ht
      simp [trPcs] at hp
      rcases hp with rfl | rfl | rfl | rfl
      · exact ⟨by show 0 < 18446744073709551616; decide, by rw [lets_length]; exact h1⟩
      · exact ⟨h2, by simp⟩
      · exact ⟨by show 0 < 18446744073709551616; decide, by rw [lets_length]; exact h3⟩
      · exact ⟨by show 0 < 18446744073709551616; decide, by rw [lets_length]; exact h4⟩))
  obtain ⟨d, a, s, r⟩ := t
  go_enter Tryd.func8, Tryd.ntmps8
  go_upto_region 1 with fail
  refine fbox1 ?_
  intro w0 F hs
  have HF := hid F
  clear F hs
  apply region_go (by kernel_rfl) (fun W hb => (HF.out.go hb).r0.k4) (by kernel_rfl)
  · intro σ; simp [slotAll]; exact rfl
  iterate 2 (apply RK.val rfl; · intro σ W hb hc ⟨hd, hu⟩; simp [Fresh, Region.binds] at hd hu; go_simp; exact rfl)
  apply RK.new (ByB (lets d)) (ByB.stay _) rfl
  · intro σ W hb hc ⟨hd, hu⟩; simp [Fresh, Region.binds] at hd hu
    have q := conv_text W d
    have HH := hid (text_bytes W d)
    have HBW := hid (text_below W d)
    generalize Lib.bytesWorld W 5 d = W2 at *
    generalize grownCap W d.size 0 5 = cap at *
    exact ⟨_, W2, by go_simp <;> first | exact rfl | exact ⟨rfl, rfl⟩, HBW.out, _, _, _, rfl, HH.out⟩
  apply RK.callG (PcB (lets d)) (PcB.stay _) rfl
  · intro σ W hb hc ⟨hd, hu⟩; simp [Fresh, Region.binds] at hd hu
    obtain ⟨o, n, c, e, h⟩ := (show ByB (lets d) _ W from by first | exact hd | exact hd.1)
    have HH := hid (HTB.out o n c _ W h)
    clear h
    exact ⟨_, _, by go_simp <;> first | exact rfl | exact ⟨rfl, rfl⟩, HH.out⟩
  iterate 5 (apply RK.val rfl; · intro σ W hb hc ⟨hd, hu⟩; simp [Fresh, Region.binds] at hd hu; go_simp; exact rfl)
  apply RK.new (ByB (lets s)) (ByB.stay _) rfl
  · intro σ W hb hc ⟨hd, hu⟩; simp [Fresh, Region.binds] at hd hu
    have q := conv_text W s
    have HH := hid (text_bytes W s)
    have HBW := hid (text_below W s)
    generalize Lib.bytesWorld W 5 s = W2 at *
    generalize grownCap W s.size 0 5 = cap at *
    exact ⟨_, W2, by go_simp <;> first | exact rfl | exact ⟨rfl, rfl⟩, HBW.out, _, _, _, rfl, HH.out⟩
  apply RK.callG (PcB (lets s)) (PcB.stay _) rfl
  · intro σ W hb hc ⟨hd, hu⟩; simp [Fresh, Region.binds] at hd hu
    obtain ⟨o, n, c, e, h⟩ := (show ByB (lets s) _ W from by first | exact hd | exact hd.1)
    have HH := hid (HTB.out o n c _ W h)
    clear h
    exact ⟨_, _, by go_simp <;> first | exact rfl | exact ⟨rfl, rfl⟩, HH.out⟩
  iterate 2 (apply RK.val rfl; · intro σ W hb hc ⟨hd, hu⟩; simp [Fresh, Region.binds] at hd hu; go_simp; exact rfl)
  apply RK.new (ByB (lets r)) (ByB.stay _) rfl
  · intro σ W hb hc ⟨hd, hu⟩; simp [Fresh, Region.binds] at hd hu
    have q := conv_text W r
    have HH := hid (text_bytes W r)
    have HBW := hid (text_below W r)
    generalize Lib.bytesWorld W 5 r = W2 at *
    generalize grownCap W r.size 0 5 = cap at *
    exact ⟨_, W2, by go_simp <;> first | exact rfl | exact ⟨rfl, rfl⟩, HBW.out, _, _, _, rfl, HH.out⟩
  apply RK.callG (PcB (lets r)) (PcB.stay _) rfl
  · intro σ W hb hc ⟨hd, hu⟩; simp [Fresh, Region.binds] at hd hu
    obtain ⟨o, n, c, e, h⟩ := (show ByB (lets r) _ W from by first | exact hd | exact hd.1)
    have HH := hid (HTB.out o n c _ W h)
    clear h
    exact ⟨_, _, by go_simp <;> first | exact rfl | exact ⟨rfl, rfl⟩, HH.out⟩
  apply RK.new (PcsB (trPcs ⟨d, a, s, r⟩)) (PcsB.stay _) rfl
  · intro σ W hb hc ⟨hd, hu⟩; simp [Fresh, Region.binds] at hd hu
    obtain ⟨⟨o1, n1, c1, e1, h1⟩, e2, ⟨o3, n3, c3, e3, h3⟩, ⟨o4, n4, c4, e4, h4⟩⟩ := hd
    have HH := hid (pieces_new W 54 [(⟨2, 0, lets d⟩, .slice o1 n1 c1), (⟨1, a, []⟩, .slice none 0 0), (⟨2, 0, lets s⟩, .slice o3 n3 c3), (⟨2, 0, lets r⟩, .slice o4 n4 c4)] (by
      intro q hq
      simp at hq
      rcases hq with rfl | rfl | rfl | rfl
      · exact h1
      · exact .inl ⟨rfl, rfl⟩
      · exact h3
      · exact h4))
    clear h1 h3 h4
    exact ⟨_, _, by go_simp <;> first | exact rfl | exact ⟨rfl, rfl⟩, (Below.refl _ _).alloc (Nat.le_refl _) _, HH.out⟩
  apply RK.callG (ByB (bytesT ⟨d, a, s, r⟩)) (ByB.stay _) rfl
  · intro σ W hb hc ⟨hd, hu⟩; simp [Fresh, Region.binds] at hd hu
    have HH := hid (HWR.out (σ 15) W (by first | exact hd | exact hd.1))
    clear hd
    exact ⟨_, _, by go_simp <;> first | exact rfl | exact ⟨rfl, rfl⟩, HH.out⟩
  apply RK.new (ByB (bytesT ⟨d, a, s, r⟩)) (ByB.stay _) rfl
  · intro σ W hb hc ⟨hd, hu⟩; simp [Fresh, Region.binds] at hd hu
    obtain ⟨o, n, k, e, h⟩ := (show ByB (bytesT ⟨d, a, s, r⟩) _ W from by first | exact hd | exact hd.1)
    have HH := hid h
    clear h
    try clear hd
    exact ⟨_, W, by go_simp <;> exact rfl, Below.refl _ _, o, n, k, rfl, HH.out⟩
  intro σ W hb _
  simp only [AllF, List.nil_append, List.cons_append, Nat.reduceAdd]
  intro hF
  obtain ⟨-, -, -, -, -, -, -, -, -, -, -, -, -, -, -, -, -, ⟨o, n, cc, e18, h18⟩, -⟩ := hF
  have HBB := hid (HF.out.go hb).b
  have HBY := hid h18
  simp only [e18]
  clear hb h18 e18
  go_wp2
  go_ret
  exact ⟨HBB.out, _, rfl, HBY.out⟩
end Go.Proofs.YtnoaohlajllngaaDoor
