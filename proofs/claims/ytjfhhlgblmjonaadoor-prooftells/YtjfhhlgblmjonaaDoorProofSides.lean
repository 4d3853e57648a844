/-
  What package proof's down does with a function that is told each turn; what sides answers: on which side a place lies, from the lowest fork on.
  What package proof's down does with the function that proofAt hands to it.
-/
import Derived.Test.YtjfhhlgblmjonaaDoorPathMem
import Derived.Test.YtjfhhlgblmjonaaDoorBookSplit
import Derived.Test.YtjfhhlgblmjonaaDoorRef5Way
import Derived.Test.YtjfhhlgblmjonaaDoorBookTree
import Derived.Test.YtjfhhlgblmjonaaDoorBookGet
import Derived.Deep.RegionLaw
namespace Go.Proofs.YtjfhhlgblmjonaaDoor
open Go.RowKit

set_option maxRecDepth 100000 in
set_option maxHeartbeats 2000000 in
theorem down_sides (g : Nat) (Inv : List Tn → Nat → Nat → Nat → World → Prop) (i n : Nat) (w : World) (hi : i < n) (hn : n ≤ 256)
    (hstep : ∀ (ts : List Tn) (j m a : Nat) (wr : World), 1 < m → j < m → a + m ≤ n → wayL i n 0 = ts ++ wayL j m a → Inv ts j m a wr → Calls Tryd.prog 58 #[.int .i64 (halfN m : Int), .bool (decide (j < halfN m)), .pointer (some ⟨g, 0, none⟩)] wr fun e w' => e = .returned (.tuple #[]) ∧
      if j < halfN m then Inv (ts ++ [⟨false, a + halfN m, m - halfN m⟩]) j (halfN m) a w' else Inv (ts ++ [⟨true, a, halfN m⟩]) (j - halfN m) (m - halfN m) (a + halfN m) w')
    (h0 : Inv [] i n 0 w) :
    Calls Tryd.prog 36 #[.int .i64 (i : Int), .int .i64 (n : Int), .func (.func 58) #[] #[.pointer (some ⟨g, 0, none⟩)]] w fun e w' => e = .returned (.tuple #[]) ∧ ∃ j a, Inv (wayL i n 0) j 1 a w' := by
  have HS := hid hstep
  have H0 := hid h0
  clear hstep h0
  go_enter Tryd.func36, Tryd.ntmps36
  go_wp2_with fail
  go_loopw [0, 1] (fun s0 s1 wr => ∃ (j m a : Nat) (ts : List Tn), s0 = .int .i64 (j : Int) ∧ s1 = .int .i64 (m : Int) ∧ j < m ∧ m ≤ n ∧ a + m ≤ n ∧ Hid (Inv ts j m a wr ∧ wayL i n 0 = ts ++ wayL j m a)) (fun _ s1 _ => (intOf s1).toNat)
  case atStart => exact ⟨i, n, 0, [], rfl, rfl, hi, Nat.le_refl _, by omega, hid ⟨H0.out, rfl⟩⟩
  case round =>
    obtain ⟨j, m, a, ts, rfl, rfl, hjm, hmn, ham, HI⟩ := hrel
    by_cases h1 : 1 < m
    · have hh := halfN_lt m h1
      have HC := hid (HS.out ts j m a wr h1 hjm ham HI.out.2 HI.out.1)
      have HSP := hid (split_any m wr (by omega) (by omega))
      have HL := hid (fun h => wayL_left j m a h1 h)
      have HRT := hid (fun h => wayL_right j m a h1 h)
      obtain ⟨k, hk⟩ : ∃ k, halfN m = k := ⟨_, rfl⟩
      rw [hk] at hh HC HSP HL HRT
      clear hk
      have e1 : decide ((1 : Int) < (m : Int)) = true := by simp; omega
      by_cases hjk : j < k
      · have e2 : decide ((j : Int) < (k : Int)) = true := by simp; omega
        rw [decide_eq_true hjk] at HC
        have HJK := hid hjk
        go_wp2_with fail
        refine HSP.out.mono ?_
        rintro e w2 ⟨rfl, hw2⟩
        obtain rfl := hw2.symm
        go_wp2_with fail
        refine HC.out.mono ?_
        rintro e w3 ⟨rfl, hinv⟩
        have HV := hid hinv
        clear hinv
        go_wp2_with fail
        refine ⟨⟨j, k, a, ts ++ [⟨false, a + k, m - k⟩], rfl, rfl, hjk, by omega, by omega, hid ⟨?_, ?_⟩⟩, by simp [intOf]; omega⟩
        · have := HV.out
          rwa [if_pos HJK.out] at this
        · rw [HI.out.2, HL.out HJK.out]
          simp
      · have e2 : decide ((j : Int) < (k : Int)) = false := by simp; omega
        rw [decide_eq_false hjk] at HC
        have HJK := hid hjk
        go_wp2_with fail
        refine HSP.out.mono ?_
        rintro e w2 ⟨rfl, hw2⟩
        obtain rfl := hw2.symm
        go_wp2_with fail
        refine HC.out.mono ?_
        rintro e w3 ⟨rfl, hinv⟩
        have HV := hid hinv
        clear hinv
        go_wp2_with fail
        refine ⟨⟨j - k, m - k, a + k, ts ++ [⟨true, a, k⟩], by go_num, by go_num, by omega, by omega, by omega, hid ⟨?_, ?_⟩⟩, by simp [intOf]; omega⟩
        · have := HV.out
          rwa [if_neg HJK.out] at this
        · rw [HI.out.2, HRT.out HJK.out]
          simp
    · have hge : decide ((1 : Int) < (m : Int)) = false := by simp; omega
      obtain rfl : m = 1 := by omega
      go_wp2
      go_end0
      refine ⟨rfl, j, a, ?_⟩
      have h2 := HI.out.2
      rw [wayL_one j 1 a h1, List.append_nil] at h2
      rw [h2]
      exact HI.out.1
set_option maxRecDepth 100000 in
set_option maxHeartbeats 1000000 in
theorem sides1_any (kk : Int) (b : Bool) (g base : Nat) (v : Value) (bs : List Bool) (w : World) (hr : Row w g 65 [v]) (hbase : base ≤ g) (ho : OwnT w base v bs) (hl : bs.length ≤ 1000) :
    Calls Tryd.prog 58 #[.int .i64 kk, .bool b, .pointer (some ⟨g, 0, none⟩)] w fun e w' => e = .returned (.tuple #[]) ∧ Below base w w' ∧ ∃ v', Row w' g 65 [v'] ∧ OwnT w' base v' (bs ++ [b]) := by
  have c0 := hr.cell 0
  have hlt := hr.lt
  obtain ⟨w1, hw1⟩ : ∃ w1, w.alloc (.cells #[.bool b] 4) = w1 := ⟨_, rfl⟩
  have hb1 : Below w.heap.size w w1 := by rw [← hw1]; exact (Below.refl _ _).alloc (Nat.le_refl _) _
  have HR1 := hid (hr.below hb1 hlt)
  have HN1 := hid (show Row w1 w.heap.size 4 [.bool b] by rw [← hw1]; exact Row.new _ _ _)
  have HO1 := hid (ho.below hb1)
  have HB1 := hid (hb1.mono (show base ≤ w.heap.size by omega))
  have hsz := hb1.size
  obtain ⟨oa, ca, rfl, _⟩ := ho.shape
  clear hr ho hb1
  go_enter Tryd.func58, Tryd.ntmps58
  go_wp2_with (at_builtin; refine wpList_append_T rfl (.tmp 5) (.tmp 7) rfl base _ bs rfl HO1.out w.heap.size b rfl HN1.out (by omega) (by omega) ?_; intro v2 w2 ho2 hb2 hk2; have HR2 := hid (hk2.row HR1.out (by decide)); have s0 := HR2.out.cell 0; have s1 := HR2.out.frozen 0; obtain ⟨o2, c2, hv2, _⟩ := ho2.shape; generalize (bs ++ [b]).length = m2 at hv2; subst hv2; have HO2 := hid ho2; have HB2 := hid hb2; clear ho2 hb2 hk2)
  go_end0
  exact ⟨rfl, (HB1.out.trans HB2.out).setCell (by show base ≤ g; omega) _, _, HR2.out.set 0 _, (keepT_set HR2.out 0 _).owns HO2.out (by decide)⟩
/-- what is told of the turns so far, in a variable of its own -/
def InvS (w : World) (ts : List Tn) (_ _ _ : Nat) (wr : World) : Prop := Below w.heap.size w wr ∧ ∃ v, Row wr w.heap.size 65 [v] ∧ OwnT wr w.heap.size v (ts.map (fun t => !t.right))
theorem invS_step (i n : Nat) (w : World) (hn : n ≤ 256) (ts : List Tn) (j m a : Nat) (wr : World) (hway : wayL i n 0 = ts ++ wayL j m a) (hinv : InvS w ts j m a wr) : Calls Tryd.prog 58 #[.int .i64 (halfN m : Int), .bool (decide (j < halfN m)), .pointer (some ⟨w.heap.size, 0, none⟩)] wr fun e w' => e = .returned (.tuple #[]) ∧
      if j < halfN m then InvS w (ts ++ [⟨false, a + halfN m, m - halfN m⟩]) j (halfN m) a w' else InvS w (ts ++ [⟨true, a, halfN m⟩]) (j - halfN m) (m - halfN m) (a + halfN m) w' := by
  obtain ⟨hb, v, hr, ho⟩ := hinv
  have htl : ts.length ≤ n := by
    have := wayL_length n i 0
    rw [hway, List.length_append] at this
    omega
  refine (sides1_any _ _ w.heap.size w.heap.size v _ wr hr (Nat.le_refl _) ho (by rw [List.length_map]; omega)).mono ?_
  rintro e w' ⟨rfl, hb', v', hr', ho'⟩
  refine ⟨rfl, ?_⟩
  split
  · rename_i hlt
    rw [decide_eq_true hlt] at ho'
    exact ⟨hb.trans hb', v', hr', by rw [List.map_append]; exact ho'⟩
  · rename_i hlt
    rw [decide_eq_false hlt] at ho'
    exact ⟨hb.trans hb', v', hr', by rw [List.map_append]; exact ho'⟩
set_option maxRecDepth 100000 in
set_option maxHeartbeats 1000000 in
theorem sides_any (i n : Nat) (w : World) (hi : i < n) (hn : n ≤ 256) :
    Calls Tryd.prog 42 #[.int .i64 (i : Int), .int .i64 (n : Int)] w fun e w' => Below w.heap.size w w' ∧ ∃ v, e = .returned v ∧ OwnT w' w.heap.size v ((wayL i n 0).map (fun t => !t.right)).reverse := by
  obtain ⟨w1, hw1⟩ : ∃ w1, w.alloc (.cells #[.slice none 0 0] 65) = w1 := ⟨_, rfl⟩
  have hb1 : Below w.heap.size w w1 := by rw [← hw1]; exact (Below.refl _ _).alloc (Nat.le_refl _) _
  have hr1 : Row w1 w.heap.size 65 [.slice none 0 0] := by rw [← hw1]; exact Row.new _ _ _
  have HWL := hid (wayL_length n i 0)
  have HD := hid (down_sides w.heap.size (InvS w) i n w1 hi hn (fun ts j m a wr _ _ _ hway hinv => invS_step i n w hn ts j m a wr hway hinv) ⟨hb1, _, hr1, OwnT.nil _ _⟩)
  clear hb1 hr1
  go_enter Tryd.func42, Tryd.ntmps42
  go_wp2_with fail
  refine HD.out.mono ?_
  rintro e w2 ⟨rfl, j, a, hb2, v2, hr2, ho2⟩
  have c0 := hr2.cell 0
  have hlt2 := hr2.lt
  generalize hws : (wayL i n 0).map (fun t => !t.right) = bs at ho2
  have hbl : bs.length ≤ 256 := by rw [← hws, List.length_map]; have := HWL.out; omega
  have HWS := hid hws
  have HRV := hid (revT_any bs v2 w.heap.size w2 ho2 (by omega) (by omega))
  obtain ⟨o2, c2, rfl, _⟩ := ho2.shape
  have HR2 := hid hr2
  have HB2 := hid hb2
  clear hb2 hr2 ho2 HD hws
  generalize bs.length = m2 at *
  go_wp2_with fail
  refine HRV.out.mono ?_
  rintro e w3 ⟨rfl, ho3, hb3, hk3⟩
  have HR3 := hid (hk3.row HR2.out (by decide))
  have d0 := HR3.out.cell 0
  have HO3 := hid ho3
  have HB3 := hid (HB2.out.trans hb3)
  clear ho3 hb3 hk3 HRV c0
  go_wp2
  go_ret
  exact ⟨HB3.out, _, rfl, by rw [HWS.out]; exact HO3.out⟩
end Go.Proofs.YtjfhhlgblmjonaaDoor
namespace Go.Proofs.YtjfhhlgblmjonaaDoor
open Go.RowKit

set_option maxRecDepth 100000 in
set_option maxHeartbeats 2000000 in
theorem down_at (g g2 : Nat) (Inv : List Tn → Nat → Nat → Nat → World → Prop) (i n : Nat) (w : World) (hi : i < n) (hn : n ≤ 256)
    (hstep : ∀ (ts : List Tn) (j m a : Nat) (wr : World), 1 < m → j < m → a + m ≤ n → wayL i n 0 = ts ++ wayL j m a → Inv ts j m a wr → Calls Tryd.prog 37 #[.int .i64 (halfN m : Int), .bool (decide (j < halfN m)), .pointer (some ⟨g, 0, none⟩), .pointer (some ⟨g2, 0, none⟩)] wr fun e w' => e = .returned (.tuple #[]) ∧
      if j < halfN m then Inv (ts ++ [⟨false, a + halfN m, m - halfN m⟩]) j (halfN m) a w' else Inv (ts ++ [⟨true, a, halfN m⟩]) (j - halfN m) (m - halfN m) (a + halfN m) w')
    (h0 : Inv [] i n 0 w) :
    Calls Tryd.prog 36 #[.int .i64 (i : Int), .int .i64 (n : Int), .func (.func 37) #[] #[.pointer (some ⟨g, 0, none⟩), .pointer (some ⟨g2, 0, none⟩)]] w fun e w' => e = .returned (.tuple #[]) ∧ ∃ j a, Inv (wayL i n 0) j 1 a w' := by
  have HS := hid hstep
  have H0 := hid h0
  clear hstep h0
  go_enter Tryd.func36, Tryd.ntmps36
  go_wp2_with fail
  go_loopw [0, 1] (fun s0 s1 wr => ∃ (j m a : Nat) (ts : List Tn), s0 = .int .i64 (j : Int) ∧ s1 = .int .i64 (m : Int) ∧ j < m ∧ m ≤ n ∧ a + m ≤ n ∧ Hid (Inv ts j m a wr ∧ wayL i n 0 = ts ++ wayL j m a)) (fun _ s1 _ => (intOf s1).toNat)
  case atStart => exact ⟨i, n, 0, [], rfl, rfl, hi, Nat.le_refl _, by omega, hid ⟨H0.out, rfl⟩⟩
  case round =>
    obtain ⟨j, m, a, ts, rfl, rfl, hjm, hmn, ham, HI⟩ := hrel
    by_cases h1 : 1 < m
    · have hh := halfN_lt m h1
      have HC := hid (HS.out ts j m a wr h1 hjm ham HI.out.2 HI.out.1)
      have HSP := hid (split_any m wr (by omega) (by omega))
      have HL := hid (fun h => wayL_left j m a h1 h)
      have HRT := hid (fun h => wayL_right j m a h1 h)
      obtain ⟨k, hk⟩ : ∃ k, halfN m = k := ⟨_, rfl⟩
      rw [hk] at hh HC HSP HL HRT
      clear hk
      have e1 : decide ((1 : Int) < (m : Int)) = true := by simp; omega
      by_cases hjk : j < k
      · have e2 : decide ((j : Int) < (k : Int)) = true := by simp; omega
        rw [decide_eq_true hjk] at HC
        have HJK := hid hjk
        go_wp2_with fail
        refine HSP.out.mono ?_
        rintro e w2 ⟨rfl, hw2⟩
        obtain rfl := hw2.symm
        go_wp2_with fail
        refine HC.out.mono ?_
        rintro e w3 ⟨rfl, hinv⟩
        have HV := hid hinv
        clear hinv
        go_wp2_with fail
        refine ⟨⟨j, k, a, ts ++ [⟨false, a + k, m - k⟩], rfl, rfl, hjk, by omega, by omega, hid ⟨?_, ?_⟩⟩, by simp [intOf]; omega⟩
        · have := HV.out
          rwa [if_pos HJK.out] at this
        · rw [HI.out.2, HL.out HJK.out]
          simp
      · have e2 : decide ((j : Int) < (k : Int)) = false := by simp; omega
        rw [decide_eq_false hjk] at HC
        have HJK := hid hjk
        go_wp2_with fail
        refine HSP.out.mono ?_
        rintro e w2 ⟨rfl, hw2⟩
        obtain rfl := hw2.symm
        go_wp2_with fail
        refine HC.out.mono ?_
        rintro e w3 ⟨rfl, hinv⟩
        have HV := hid hinv
        clear hinv
        go_wp2_with fail
        refine ⟨⟨j - k, m - k, a + k, ts ++ [⟨true, a, k⟩], by go_num, by go_num, by omega, by omega, by omega, hid ⟨?_, ?_⟩⟩, by simp [intOf]; omega⟩
        · have := HV.out
          rwa [if_neg HJK.out] at this
        · rw [HI.out.2, HRT.out HJK.out]
          simp
    · have hge : decide ((1 : Int) < (m : Int)) = false := by simp; omega
      obtain rfl : m = 1 := by omega
      go_wp2
      go_end0
      refine ⟨rfl, j, a, ?_⟩
      have h2 := HI.out.2
      rw [wayL_one j 1 a h1, List.append_nil] at h2
      rw [h2]
      exact HI.out.1
set_option maxRecDepth 100000 in
set_option maxHeartbeats 4000000 in
theorem at1_any (ps : List PrV) (k : Nat) (b : Bool) (gr gp base M N : Nat) (pv rv : Value) (ls : List (List (BitVec 8))) (w : World) (hT : tableAt w) (hgr : base ≤ gr) (hgp : base ≤ gp)
    (hrr : Row w gr 22 [rv]) (hrp : Row w gp 24 [pv]) (ho : OwnL w base pv ls) (hs : SrcPr w M rv ps) (hM : M ≤ base) (hok : ∀ q ∈ ps, q.ok w N) (hN : N ≤ base) (hsh : ∀ q ∈ ps, q.short) (hk : k ≤ ps.length) (hlen : ps.length ≤ 256) (hl : ls.length ≤ 1000) :
    Calls Tryd.prog 37 #[.int .i64 (k : Int), .bool b, .pointer (some ⟨gr, 0, none⟩), .pointer (some ⟨gp, 0, none⟩)] w fun e w' => e = .returned (.tuple #[]) ∧ Below base w w' ∧
      ∃ pv' rv', Row w' gr 22 [rv'] ∧ Row w' gp 24 [pv'] ∧ OwnL w' base pv' (ls ++ [treeD ((if b then ps.drop k else ps.take k).map (·.p))]) ∧ SrcPr w' M rv' (if b then ps.take k else ps.drop k) := by
  have c0 := hrr.cell 0
  have c1 := hrp.cell 0
  have hltr := hrr.lt
  have hltp := hrp.lt
  obtain ⟨oa, ca, rfl, hca⟩ := hs.shape
  generalize hL : ps.length = L at *
  obtain ⟨va, hsl1, hs1⟩ := src_to hs .i64 k hk
  obtain ⟨vb, hsl2, hs2⟩ := src_from hs .i64 k hk
  obtain ⟨o1, k1, rfl, _⟩ := hs1.shape
  obtain ⟨o2, k2, rfl, _⟩ := hs2.shape
  generalize hn1 : (ps.take k).length = n1 at *
  generalize hn2 : (ps.drop k).length = n2 at *
  obtain ⟨op, cp, hpv, hcp⟩ := ho.shape
  have HLN := hid (show ls.length ≤ 1000000 from Nat.le_trans hl (by decide))
  obtain ⟨np, hnp⟩ : ∃ np, ls.length = np := ⟨_, rfl⟩
  rw [hnp] at hcp hl hpv
  subst hpv
  have HTR := hid (show ∀ (b : Bool) (wx : World), Below w.heap.size w wx → Calls Tryd.prog 38 #[if b then .slice o2 n2 k2 else .slice o1 n1 k1] wx fun e w' => ∃ oa nv cap, e = .returned (.slice oa nv cap) ∧ OwnB w' wx.heap.size (.slice oa nv cap) (treeD ((if b then ps.drop k else ps.take k).map (·.p))) ∧ Below wx.heap.size wx w' from fun b wx hx => by
    have hszx := hx.size
    cases b with
    | true => exact tree_any L (ps.drop k) _ N M wx (by simp [hL]) (hT.past hx) (by omega) (by omega) (hs2.below (hx.mono (by omega))) (fun q hq => (hok q (List.mem_of_mem_drop hq)).below (hx.mono (by omega))) (fun q hq => hsh q (List.mem_of_mem_drop hq)) (by simp [hL]; omega)
    | false => exact tree_any L (ps.take k) _ N M wx (by simp [hL]; omega) (hT.past hx) (by omega) (by omega) (hs1.below (hx.mono (by omega))) (fun q hq => (hok q (List.mem_of_mem_take hq)).below (hx.mono (by omega))) (fun q hq => hsh q (List.mem_of_mem_take hq)) (by simp [hL]; omega))
  have HRR := hid hrr
  have HRP := hid hrp
  have HO := hid ho
  have HS1 := hid hs1
  have HS2 := hid hs2
  have HDR := hid (fun (n : Nat) => drewN_belowT w n w.heap.size)
  have HFIN := hid (show ∀ (wx : World) (y : List (BitVec 8)) (x : Value) (px : Value), Below base w wx → Row wx gr 22 [.slice oa L ca] → Row wx gp 24 [px] → OwnL wx base x (ls ++ [y]) →
      Below base w ((wx.setCell ⟨gp, 0, none⟩ x)) ∧ Row (wx.setCell ⟨gp, 0, none⟩ x) gr 22 [.slice oa L ca] ∧ Row (wx.setCell ⟨gp, 0, none⟩ x) gp 24 [x] ∧ OwnL (wx.setCell ⟨gp, 0, none⟩ x) base x (ls ++ [y]) from fun wx y x px hb h1 h2 h3 =>
    ⟨hb.setCell hgp _, (keepT_set h2 0 x).row h1 (by decide), h2.set 0 x, h3.keep (keepT_set h2 0 x) (by decide) (by decide)⟩)
  have HFIN2 := hid (show ∀ (wx : World) (y : List (BitVec 8)) (x : Value) (z : Value), Below base w wx → Row wx gr 22 [.slice oa L ca] → Row wx gp 24 [x] → OwnL wx base x (ls ++ [y]) →
      Below base w ((wx.setCell ⟨gr, 0, none⟩ z)) ∧ Row (wx.setCell ⟨gr, 0, none⟩ z) gr 22 [z] ∧ Row (wx.setCell ⟨gr, 0, none⟩ z) gp 24 [x] ∧ OwnL (wx.setCell ⟨gr, 0, none⟩ z) base x (ls ++ [y]) from fun wx y x z hb h1 h2 h3 =>
    ⟨hb.setCell hgr _, h1.set 0 z, (keepT_set h1 0 z).row h2 (by decide), h3.keep (keepT_set h1 0 z) (by decide) (by decide)⟩)
  have HSZ := hid (show base ≤ w.heap.size by omega)
  clear hrr hrp ho hs hs1 hs2 hok hsh hT hn1 hn2 hL hnp
  go_enter Tryd.func37, Tryd.ntmps37
  cases b with
  | true =>
    go_wp2_with fail
    go_region
    go_wp2_with fail
    obtain ⟨w0, hw0⟩ : ∃ w0, w.drew = w0 := ⟨_, rfl⟩
    have HX0 := hid (show Below w.heap.size w w0.drew by rw [← hw0]; exact (Below.refl _ _).drew.drew)
    have HZ0 := hid (show w0.drew.heap.size = w.heap.size by rw [← hw0]; rfl)
    have e1 : w0.cell? ⟨gp, 0, none⟩ = some (.slice op np cp) := by rw [← hw0]; exact HRP.out.drew.cell 0
    have HTT := hid (HTR.out true w0.drew HX0.out)
    obtain ⟨y, hy⟩ : ∃ y, treeD ((ps.drop k).map (·.p)) = y := ⟨_, rfl⟩
    have HYY := hid hy
    rw [hw0]
    clear hw0 hy c0 c1 hsl1 hsl2
    go_region_law (first
      | (refine step_append_L rfl (.tmp 18) (.tmp 21) rfl base (.slice op np cp) ls ?_ HO2.out w1.heap.size (.slice o3 n3 c3) y ?_ HN2.out HY2.out HLN.out (by omega) ?_; rfl; rfl; intro v4 w4 ho4 hb4 hk4; obtain ⟨o4, c4, hv4, _⟩ := ho4.shape; generalize (ls ++ [y]).length = n4 at hv4; subst hv4; have HRR4 := hid (hk4.row HRR2.out (by decide)); have HRP4 := hid (hk4.row HRP2.out (by decide)); have q0 := HRP4.out.cell 0; have q1 := HRP4.out.frozen 0; obtain ⟨w5, hw5⟩ : ∃ w5, w4.setCell ⟨gp, 0, none⟩ (.slice o4 n4 c4) = w5 := ⟨_, rfl⟩; have HF5 := hid (HFIN.out w4 y (.slice o4 n4 c4) _ ((HB2.out.mono HSZ.out).trans hb4) HRR4.out HRP4.out ho4); rw [hw5] at HF5; have q2 := HF5.out.2.1.cell 0; have q3 := HF5.out.2.1.frozen 0; clear ho4 hb4 hk4)
      | (go_simp; go_at_call 38; refine HTT.out.mono ?_; rintro e w1 ⟨o3, n3, c3, rfl, hown3, hb3⟩; have HB1 := hid (show Below w.heap.size w w1 from HX0.out.trans (hb3.mono (Nat.le_of_eq HZ0.out.symm))); have hz1 := HB1.out.size; have HRR1 := hid (HRR.out.below HB1.out hltr); have HRP1 := hid (HRP.out.below HB1.out hltp); have HO1 := hid (HO.out.below HB1.out); have HY1 := hid (show OwnB w1 base (.slice o3 n3 c3) y from (by rw [← HYY.out]; exact hown3.mono (by rw [HZ0.out]; exact HSZ.out))); have t1 := HRP1.out.cell 0; obtain ⟨w2, hw2⟩ : ∃ w2, w1.alloc (.cells #[.slice o3 n3 c3] 23) = w2 := ⟨_, rfl⟩; have hb2 : Below w1.heap.size w1 w2 := (by rw [← hw2]; exact (Below.refl _ _).alloc (Nat.le_refl _) _); have HN2 := hid (show Row w2 w1.heap.size 23 [.slice o3 n3 c3] by rw [← hw2]; exact Row.new _ _ _); have hz2 := hb2.size; have HRR2 := hid (HRR1.out.below hb2 (by omega)); have HRP2 := hid (HRP1.out.below hb2 (by omega)); have HO2 := hid (HO1.out.below hb2); have HY2 := hid (HY1.out.below hb2); have HB2 := hid (HB1.out.trans (hb2.mono hz1)); have t2 := HRP2.out.cell 0; clear hown3 hb3 hb2))
    all_goals
      go_wp2_with fail
      go_end0
      have h6 := HFIN2.out w5 y _ (.slice o1 n1 k1) HF5.out.1 HF5.out.2.1 HF5.out.2.2.1 HF5.out.2.2.2
      exact ⟨rfl, h6.1, _, _, h6.2.1, h6.2.2.1, by have h := h6.2.2.2; rw [← HYY.out] at h; simpa using h, by simpa using HS1.out.below (h6.1.mono hM)⟩
  | false =>
    go_wp2_with fail
    go_region
    go_wp2_with fail
    obtain ⟨w0, hw0⟩ : ∃ w0, w.drew = w0 := ⟨_, rfl⟩
    have HX0 := hid (show Below w.heap.size w w0.drew by rw [← hw0]; exact (Below.refl _ _).drew.drew)
    have HZ0 := hid (show w0.drew.heap.size = w.heap.size by rw [← hw0]; rfl)
    have e1 : w0.cell? ⟨gp, 0, none⟩ = some (.slice op np cp) := by rw [← hw0]; exact HRP.out.drew.cell 0
    have HTT := hid (HTR.out false w0.drew HX0.out)
    obtain ⟨y, hy⟩ : ∃ y, treeD ((ps.take k).map (·.p)) = y := ⟨_, rfl⟩
    have HYY := hid hy
    rw [hw0]
    clear hw0 hy c0 c1 hsl1 hsl2
    go_region_law (first
      | (refine step_append_L rfl (.tmp 18) (.tmp 21) rfl base (.slice op np cp) ls ?_ HO2.out w1.heap.size (.slice o3 n3 c3) y ?_ HN2.out HY2.out HLN.out (by omega) ?_; rfl; rfl; intro v4 w4 ho4 hb4 hk4; obtain ⟨o4, c4, hv4, _⟩ := ho4.shape; generalize (ls ++ [y]).length = n4 at hv4; subst hv4; have HRR4 := hid (hk4.row HRR2.out (by decide)); have HRP4 := hid (hk4.row HRP2.out (by decide)); have q0 := HRP4.out.cell 0; have q1 := HRP4.out.frozen 0; obtain ⟨w5, hw5⟩ : ∃ w5, w4.setCell ⟨gp, 0, none⟩ (.slice o4 n4 c4) = w5 := ⟨_, rfl⟩; have HF5 := hid (HFIN.out w4 y (.slice o4 n4 c4) _ ((HB2.out.mono HSZ.out).trans hb4) HRR4.out HRP4.out ho4); rw [hw5] at HF5; have q2 := HF5.out.2.1.cell 0; have q3 := HF5.out.2.1.frozen 0; clear ho4 hb4 hk4)
      | (go_simp; go_at_call 38; refine HTT.out.mono ?_; rintro e w1 ⟨o3, n3, c3, rfl, hown3, hb3⟩; have HB1 := hid (show Below w.heap.size w w1 from HX0.out.trans (hb3.mono (Nat.le_of_eq HZ0.out.symm))); have hz1 := HB1.out.size; have HRR1 := hid (HRR.out.below HB1.out hltr); have HRP1 := hid (HRP.out.below HB1.out hltp); have HO1 := hid (HO.out.below HB1.out); have HY1 := hid (show OwnB w1 base (.slice o3 n3 c3) y from (by rw [← HYY.out]; exact hown3.mono (by rw [HZ0.out]; exact HSZ.out))); have t1 := HRP1.out.cell 0; obtain ⟨w2, hw2⟩ : ∃ w2, w1.alloc (.cells #[.slice o3 n3 c3] 23) = w2 := ⟨_, rfl⟩; have hb2 : Below w1.heap.size w1 w2 := (by rw [← hw2]; exact (Below.refl _ _).alloc (Nat.le_refl _) _); have HN2 := hid (show Row w2 w1.heap.size 23 [.slice o3 n3 c3] by rw [← hw2]; exact Row.new _ _ _); have hz2 := hb2.size; have HRR2 := hid (HRR1.out.below hb2 (by omega)); have HRP2 := hid (HRP1.out.below hb2 (by omega)); have HO2 := hid (HO1.out.below hb2); have HY2 := hid (HY1.out.below hb2); have HB2 := hid (HB1.out.trans (hb2.mono hz1)); have t2 := HRP2.out.cell 0; clear hown3 hb3 hb2))
    all_goals
      go_wp2_with fail
      go_end0
      have h6 := HFIN2.out w5 y _ (.slice o2 n2 k2) HF5.out.1 HF5.out.2.1 HF5.out.2.2.1 HF5.out.2.2.2
      exact ⟨rfl, h6.1, _, _, h6.2.1, h6.2.2.1, by have h := h6.2.2.2; rw [← HYY.out] at h; simpa using h, by simpa using HS2.out.below (h6.1.mono hM)⟩
end Go.Proofs.YtjfhhlgblmjonaaDoor
