/-
  What package proof's proofAt answers: a book's proof at a place.
-/
import Derived.Test.YtjfhhlgblmjonaaDoorProofSides
import Derived.Deep.RegionHeld3
namespace Go.Proofs.YtjfhhlgblmjonaaDoor
open Go.RowKit

/-- on the way down: what is left of the book, and the digests on the other sides so far, each in a variable of its own -/
def InvA (w : World) (l : List Pr) (ps : List PrV) (M gr gp : Nat) (ts : List Tn) (_ m a : Nat) (wr : World) : Prop :=
  Below w.heap.size w wr ∧ ∃ pv rv, Row wr gr 22 [rv] ∧ Row wr gp 24 [pv] ∧ OwnL wr w.heap.size pv (ts.map (sideD l)) ∧ SrcPr wr M rv ((ps.drop a).take m)
theorem invA_step (w : World) (l : List Pr) (ps : List PrV) (hps : ps.map (·.p) = l) (M N gr gp : Nat) (hT : tableAt w) (hgr : w.heap.size ≤ gr) (hgp : w.heap.size ≤ gp) (hM : M ≤ w.heap.size) (hN : N ≤ w.heap.size) (hok : ∀ q ∈ ps, q.ok w N) (hsh : ∀ q ∈ ps, q.short) (i n : Nat) (hn : n ≤ 256) (hpl : ps.length = n)
    (ts : List Tn) (j m a : Nat) (wr : World) (h1 : 1 < m) (ham : a + m ≤ n) (hway : wayL i n 0 = ts ++ wayL j m a) (hinv : InvA w l ps M gr gp ts j m a wr) : Calls Tryd.prog 37 #[.int .i64 (halfN m : Int), .bool (decide (j < halfN m)), .pointer (some ⟨gr, 0, none⟩), .pointer (some ⟨gp, 0, none⟩)] wr fun e w' => e = .returned (.tuple #[]) ∧
      if j < halfN m then InvA w l ps M gr gp (ts ++ [⟨false, a + halfN m, m - halfN m⟩]) j (halfN m) a w' else InvA w l ps M gr gp (ts ++ [⟨true, a, halfN m⟩]) (j - halfN m) (m - halfN m) (a + halfN m) w' := by
  obtain ⟨hb, pv, rv, hrr, hrp, ho, hs⟩ := hinv
  have htl : ts.length ≤ n := by
    have := wayL_length n i 0
    rw [hway, List.length_append] at this
    omega
  have hh := halfN_lt m h1
  have hml : ((ps.drop a).take m).length = m := by rw [List.length_take, List.length_drop]; omega
  have hmem : ∀ q ∈ (ps.drop a).take m, q ∈ ps := fun q hq => List.mem_of_mem_drop (List.mem_of_mem_take hq)
  refine (at1_any ((ps.drop a).take m) (halfN m) (decide (j < halfN m)) gr gp w.heap.size M N pv rv (ts.map (sideD l)) wr (hT.past hb) hgr hgp hrr hrp ho hs hM (fun q hq => (hok q (hmem q hq)).below (hb.mono hN)) hN (fun q hq => hsh q (hmem q hq)) (by rw [hml]; omega) (by rw [hml]; omega) (by rw [List.length_map]; omega)).mono ?_
  rintro e w' ⟨rfl, hb', pv', rv', hr', hp', ho', hs'⟩
  have e1 : ((ps.drop a).take m).take (halfN m) = (ps.drop a).take (halfN m) := by rw [List.take_take, Nat.min_eq_left (by omega)]
  have e2 : ((ps.drop a).take m).drop (halfN m) = (ps.drop (a + halfN m)).take (m - halfN m) := by rw [List.drop_take, List.drop_drop]
  rw [e1, e2] at ho' hs'
  refine ⟨rfl, ?_⟩
  by_cases hlt : j < halfN m
  · rw [if_pos hlt]
    rw [decide_eq_true hlt, if_pos rfl] at ho' hs'
    refine ⟨hb.trans hb', pv', rv', hr', hp', ?_, hs'⟩
    rw [List.map_append, ← hps]
    simp only [List.map_take, List.map_drop] at ho'
    rw [← hps] at ho'
    exact ho'
  · rw [if_neg hlt]
    rw [decide_eq_false hlt, if_neg (by decide)] at ho' hs'
    refine ⟨hb.trans hb', pv', rv', hr', hp', ?_, hs'⟩
    rw [List.map_append, ← hps]
    simp only [List.map_take, List.map_drop] at ho'
    rw [← hps] at ho'
    exact ho'
theorem five_set {w : World} {B : Nat} {t : TypeId} {v0 v1 v2 v3 v4 : Value} (h : Row w B t [v0, v1, v2, v3, v4]) (x0 x1 x2 x3 x4 : Value) :
    ∃ w', ((((w.setCell ⟨B, 0, none⟩ x0).setCell ⟨B, 1, none⟩ x1).setCell ⟨B, 2, none⟩ x2).setCell ⟨B, 3, none⟩ x3).setCell ⟨B, 4, none⟩ x4 = w' ∧ Row w' B t [x0, x1, x2, x3, x4] ∧ Below B w w' ∧ KeepT t w w' ∧ w'.heap.size = w.heap.size := by
  refine ⟨_, rfl, ((((h.set 0 x0).set 1 x1).set 2 x2).set 3 x3).set 4 x4, ?_, ?_, by simp⟩
  · exact ((((((Below.refl B w).setCell (Nat.le_refl _) _).setCell (Nat.le_refl _) _).setCell (Nat.le_refl _) _).setCell (Nat.le_refl _) _).setCell (Nat.le_refl _) _)
  · exact ((((keepT_set h 0 x0).trans (keepT_set (h.set 0 x0) 1 x1)).trans (keepT_set ((h.set 0 x0).set 1 x1) 2 x2)).trans (keepT_set (((h.set 0 x0).set 1 x1).set 2 x2) 3 x3)).trans (keepT_set ((((h.set 0 x0).set 1 x1).set 2 x2).set 3 x3) 4 x4)
set_option maxRecDepth 100000 in
set_option maxHeartbeats 4000000 in
theorem proofAt_any (l : List Pr) (i : Nat) (q : Pr) (sv : Value) (N : Nat) (w : World) (hT : tableAt w) (hN : N ≤ w.heap.size) (hb : Pairs w N sv l) (hq : l[i]? = some q) (hf : Fits l) (hn : l.length ≤ 200) :
    Calls Tryd.prog 16 #[sv, .int .i64 (i : Int)] w fun e w' => Below w.heap.size w w' ∧ ∃ o1 n1 c1 o2 n2 c2 o3 n3 c3, e = .returned (.agg #[.int .i64 (i : Int), .int .i64 (l.length : Int), .slice o1 n1 c1, .slice o2 n2 c2, .slice o3 n3 c3]) ∧
      OwnB w' w.heap.size (.slice o1 n1 c1) q.key ∧ OwnB w' w.heap.size (.slice o2 n2 c2) q.val ∧ OwnL w' w.heap.size (.slice o3 n3 c3) (proofAt l i q).path := by
  obtain ⟨ps, hps, hsrc, hok⟩ := pairs_src hb
  have hil : i < l.length := (List.getElem?_eq_some_iff.1 hq).1
  obtain ⟨qv, hqv, hqp⟩ : ∃ qv, ps[i]? = some qv ∧ qv.p = q := by
    rw [← hps] at hq
    simpa using hq
  have hqok := hok qv (List.mem_of_getElem? hqv)
  have hqf := hf q (List.mem_of_getElem? hq)
  rw [show qv.ok w N ↔ (Bytes w N qv.k q.key ∧ Bytes w N qv.v q.val) by rw [← hqp]; exact Iff.rfl] at hqok
  obtain ⟨oa, ca, rfl, hca⟩ := hb.shape
  have hpl : ps.length = l.length := by rw [← hps]; simp
  obtain ⟨b, o, rfl, hcells⟩ := hsrc.some (by omega)
  obtain ⟨hbN, hd0, hd1⟩ := hcells i qv hqv
  obtain ⟨o1, c1, ek, _⟩ := hqok.1.shape
  obtain ⟨o2, c2, ev, _⟩ := hqok.2.shape
  rw [ek] at hd0
  rw [ev] at hd1
  rw [ek, ev] at hqok
  obtain ⟨w1, hw1⟩ : ∃ w1, w.alloc (.cells #[.int .i64 0, .int .i64 0, .slice none 0 0, .slice none 0 0, .slice none 0 0] 26) = w1 := ⟨_, rfl⟩
  have hsz1 : w1.heap.size = w.heap.size + 1 := by rw [← hw1]; simp
  have hb1 : Below w.heap.size w w1 := by rw [← hw1]; exact (Below.refl _ _).alloc (Nat.le_refl _) _
  have hr1 : Row w1 w.heap.size 26 [.int .i64 0, .int .i64 0, .slice none 0 0, .slice none 0 0, .slice none 0 0] := by rw [← hw1]; exact Row.new _ _ _
  obtain ⟨w2, hw2⟩ : ∃ w2, w1.alloc (.cells #[.slice none 0 0] 24) = w2 := ⟨_, rfl⟩
  have hsz2 : w2.heap.size = w1.heap.size + 1 := by rw [← hw2]; simp
  have hb2 : Below w1.heap.size w1 w2 := by rw [← hw2]; exact (Below.refl _ _).alloc (Nat.le_refl _) _
  have hr2 : Row w2 w1.heap.size 24 [.slice none 0 0] := by rw [← hw2]; exact Row.new _ _ _
  obtain ⟨w3, hw3⟩ : ∃ w3, w2.alloc (.cells #[.slice (some ⟨b, o, none⟩) l.length ca] 22) = w3 := ⟨_, rfl⟩
  have hsz3 : w3.heap.size = w2.heap.size + 1 := by rw [← hw3]; simp
  have hb3 : Below w2.heap.size w2 w3 := by rw [← hw3]; exact (Below.refl _ _).alloc (Nat.le_refl _) _
  have hr3 : Row w3 w2.heap.size 22 [.slice (some ⟨b, o, none⟩) l.length ca] := by rw [← hw3]; exact Row.new _ _ _
  have hb13 : Below w1.heap.size w1 w3 := hb2.trans (hb3.mono (by omega))
  have HD := hid (down_at w2.heap.size w1.heap.size (InvA w1 l ps N w2.heap.size w1.heap.size) i l.length w3 hil (by omega)
    (fun ts j m a wr h1 _ ham hway hinv => invA_step w1 l ps hps N N w2.heap.size w1.heap.size (hT.past hb1) (by omega) (by omega) (by omega) (by omega) (fun q hq => (hok q hq).below (hb1.mono hN)) (fun q hq => by
      have := hf q.p (by rw [← hps]; exact List.mem_map_of_mem hq)
      exact ⟨by omega, by omega⟩) i l.length (by omega) hpl ts j m a wr h1 ham hway hinv)
    ⟨hb13, _, _, hr3, hr2.below hb3 (by omega), OwnL.nil _ _, by rw [List.drop_zero, List.take_of_length_le (by omega)]; exact (hsrc.below (hb1.mono hN)).below (hb13.mono (by omega))⟩)
  have HR1 := hid hr1
  have HB1 := hid hb1
  have HWL := hid (wayL_length l.length i 0)
  have HK := hid hqok.1
  have HV := hid hqok.2
  have HQF := hid hqf
  have HD0 := hid (show ∀ wx, Below w.heap.size w wx → wx.cell? ⟨b, o + i * 2, none⟩ = some (.slice o1 q.key.length c1) ∧ wx.cell? ⟨b, o + i * 2 + 1, none⟩ = some (.slice o2 q.val.length c2) from fun wx hx =>
    ⟨(hx.cell (show b < w.heap.size by omega)).trans hd0, (hx.cell (show b < w.heap.size by omega)).trans hd1⟩)
  have hp : (proofAt l i q).path = ((wayL i l.length 0).map (sideD l)).reverse := rfl
  have HP := hid hp
  clear hp hb hq hsrc hok hqv hqp hqok hqf hcells hd0 hd1 ek ev hb1 hb2 hb3 hr1 hr2 hr3 hb13 hT hf
  generalize hL : l.length = L at *
  clear hL
  rw [hsz2, hsz1] at HD
  have HZ := hid hsz1
  have HZ2 := hid hsz2
  have hiL : (i : Int) < (L : Int) := by omega
  go_enter Tryd.func16, Tryd.ntmps16
  go_wp2_with fail
  refine HD.out.mono ?_
  rintro e w4 ⟨rfl, j, a, hb4, pv, rv, hr4, hp4, ho4, hs4⟩
  have hz4 := hb4.size
  have hlt4 := hp4.lt
  have c4 := hp4.cell 0
  generalize hls : (wayL i L 0).map (sideD l) = ls at ho4
  have hll : ls.length ≤ 256 := by rw [← hls, List.length_map]; have := HWL.out; omega
  have HLS := hid hls
  have HRV := hid (revL_any ls pv w1.heap.size w4 ho4 (by omega) (by omega))
  obtain ⟨op, cp, rfl, _⟩ := ho4.shape
  have HP4 := hid hp4
  have HB4 := hid hb4
  clear hb4 hr4 hp4 ho4 hs4 HD hls
  generalize ls.length = m at *
  go_wp2_with fail
  refine HRV.out.mono ?_
  rintro e w5 ⟨rfl, ho5, hb5, hk5⟩
  have HP5 := hid (hk5.row HP4.out (by decide))
  have HB5 := hid (HB4.out.trans hb5)
  have HB05 := hid (HB1.out.trans (HB5.out.mono (by omega)))
  have hz5 := HB5.out.size
  have hz45 := hb5.size
  have HO5 := hid ho5
  have HR5 := hid (HR1.out.below HB5.out (by omega))
  have HBC := hid (show ∀ wx, Below w5.heap.size w5 wx → (wx.cell? ⟨b, o + i * 2, none⟩ = some (.slice o1 q.key.length c1) ∧ wx.cell? ⟨b, o + i * 2 + 1, none⟩ = some (.slice o2 q.val.length c2)) ∧ wx.cell? ⟨w.heap.size + 1, 0, none⟩ = some (.slice op m cp) from fun wx hx =>
    ⟨HD0.out wx (HB05.out.trans (hx.mono (by omega))), (HP5.out.below hx (by omega)).cell 0⟩)
  have HRX := hid (show ∀ wx, Below w5.heap.size w5 wx → Row wx w.heap.size 26 [.int .i64 0, .int .i64 0, .slice none 0 0, .slice none 0 0, .slice none 0 0] from fun wx hx => HR5.out.below hx (by omega))
  have HCK := hid (show ∀ wx, Below w5.heap.size w5 wx → Calls Tryd.prog 40 #[.slice o1 q.key.length c1] wx fun e w' => Below wx.heap.size wx w' ∧ ∃ v, e = .returned v ∧ OwnB w' wx.heap.size v q.key from fun wx hx => clone_any q.key _ N wx (HK.out.below ((HB05.out.trans (hx.mono (by omega))).mono hN)) (by have := HQF.out; omega))
  have HCV := hid (show ∀ wx, Below w5.heap.size w5 wx → Calls Tryd.prog 40 #[.slice o2 q.val.length c2] wx fun e w' => Below wx.heap.size wx w' ∧ ∃ v, e = .returned v ∧ OwnB w' wx.heap.size v q.val from fun wx hx => clone_any q.val _ N wx (HV.out.below ((HB05.out.trans (hx.mono (by omega))).mono hN)) (by have := HQF.out; omega))
  have HS8 := hid (show ∀ wx wy, Below w5.heap.size w5 wx → Below w.heap.size wx wy → KeepT 26 wx wy → (wy.cell? ⟨b, o + i * 2, none⟩ = some (.slice o1 q.key.length c1) ∧ wy.cell? ⟨b, o + i * 2 + 1, none⟩ = some (.slice o2 q.val.length c2)) ∧ wy.cell? ⟨w.heap.size + 1, 0, none⟩ = some (.slice op m cp) from fun wx wy hx hy hk =>
    ⟨HD0.out wy ((HB05.out.trans (hx.mono (by omega))).trans hy), (hk.row (HP5.out.below hx (by omega)) (by decide)).cell 0⟩)
  have HBD := hid (show Below w5.heap.size w5 w5.drew from (Below.refl _ _).drew)
  have s5 := HBC.out _ HBD.out
  have t5 := HBC.out w5 (Below.refl _ _)
  have HQK := hid (show q.key.length ≤ 60 ∧ q.val.length ≤ 200 from HQF.out)
  have HWW := hid (show w.heap.size ≤ w1.heap.size by omega)
  clear ho5 hb5 hk5 HRV c4 HP4 hw1 hw2 hw3 hsz1 hsz2 hsz3 hz4 hz5 hz45 hlt4 hbN hca hpl hps hN HB4 HR1 HZ HZ2 HWL HB1 hll hil hn
  go_wp2_with fail
  go_region_held3 (fun W => (W.cell? ⟨b, o + i * 2, none⟩ = some (.slice o1 q.key.length c1) ∧ W.cell? ⟨b, o + i * 2 + 1, none⟩ = some (.slice o2 q.val.length c2)) ∧ W.cell? ⟨w.heap.size + 1, 0, none⟩ = some (.slice op m cp)) (first | assumption) (first
    | (go_at_call_of 40 (Value.slice o1 q.key.length c1); refine (HCK.out _ HBD.out).mono ?_; rintro e w6 ⟨hb6, v6, rfl, hown6⟩; obtain ⟨o6, c6, rfl, hc6⟩ := hown6.shape; have HB6 := hid (HBD.out.trans hb6); have HK6 := hid hown6; have s6 := HBC.out _ HB6.out; clear hb6 hown6 hc6)
    | (go_at_call_of 40 (Value.slice o2 q.val.length c2); refine (HCV.out _ HB6.out).mono ?_; rintro e w7 ⟨hb7, v7, rfl, hown7⟩; obtain ⟨o7, c7, rfl, hc7⟩ := hown7.shape; have HB7 := hid (HB6.out.trans (hb7.mono HB6.out.size)); have HK7 := hid (HK6.out.below hb7); have HV7 := hid hown7; have s7 := HBC.out _ HB7.out; have HR7 := hid (HRX.out w7 HB7.out); have y0 := HR7.out.cell 0; have y1 := HR7.out.cell 1; have y2 := HR7.out.cell 2; have y3 := HR7.out.cell 3; have y4 := HR7.out.cell 4; have z0 := HR7.out.frozen 0; have z1 := HR7.out.frozen 1; have z2 := HR7.out.frozen 2; have z3 := HR7.out.frozen 3; have z4 := HR7.out.frozen 4; obtain ⟨w8, hw8, hr8, hb8, hk8, hz8⟩ := five_set HR7.out (.int .i64 (i : Int)) (.int .i64 (L : Int)) (.slice o6 q.key.length c6) (.slice o7 q.val.length c7) (.slice op m cp); have HR8 := hid hr8; have HB8 := hid hb8; have HK8 := hid hk8; have HZ8 := hid hz8; have s8 := HS8.out w7 w8 HB7.out HB8.out HK8.out; have u0 := HR8.out.cell 0; have u1 := HR8.out.cell 1; have u2 := HR8.out.cell 2; have u3 := HR8.out.cell 3; have u4 := HR8.out.cell 4; clear hr8 hb8 hk8 hz8 hb7 hown7 hc7))
  all_goals
    go_wp2_with fail
    have hb := (HB05.out.trans (HB7.out.mono HB05.out.size)).trans HB8.out
    refine bodyPost_ret (v := .agg #[.int .i64 (i : Int), .int .i64 (L : Int), .slice o6 q.key.length c6, .slice o7 q.val.length c7, .slice op m cp]) (by simp [results, Tryd.results16, go_sem, u0, u1, u2, u3, u4]) rfl ⟨hb, _, _, _, _, _, _, _, _, _, rfl, ?_, ?_, ?_⟩
    · exact (show OwnB w8 _ _ _ from HK8.out.owns HK7.out (by decide)).mono HB05.out.size
    · exact (show OwnB w8 _ _ _ from HK8.out.owns HV7.out (by decide)).mono (Nat.le_trans HB05.out.size HB6.out.size)
    · rw [HP.out, HLS.out]
      exact ((HO5.out.below HB7.out).keep HK8.out (by decide) (by decide)).mono HWW.out
end Go.Proofs.YtjfhhlgblmjonaaDoor
