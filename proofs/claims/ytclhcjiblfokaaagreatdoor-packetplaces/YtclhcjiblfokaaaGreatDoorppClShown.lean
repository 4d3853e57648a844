/-
  What package proof's sideBySide and Absent answer: whether a gap shows that a key does not stand in the book with a root.
  What package client's Member and Missing answer: whether a proof, or a gap, shows something of what a client knows.
-/
import Derived.Test.YtclhcjiblfokaaaGreatDoorppPairsAll
import Derived.Test.YtclhcjiblfokaaaGreatDoorppBookMath
import Derived.Test.YtclhcjiblfokaaaGreatDoorppBookTree
import Derived.Test.YtclhcjiblfokaaaGreatDoorppBookGet
import Derived.Test.YtclhcjiblfokaaaGreatDoorppSameB
import Derived.Test.YtclhcjiblfokaaaGreatDoorppClAsk
import Derived.Deep.RegionLaw
import Derived.Deep.RegionHeld3
namespace Go.Proofs.YtclhcjiblfokaaaGreatDoor
open Go.RowKit

set_option maxRecDepth 100000 in
set_option maxHeartbeats 2000000 in
theorem down_sides (g : Nat) (Inv : List Tn → Nat → Nat → Nat → World → Prop) (i n : Nat) (w : World) (hi : i < n) (hn : n ≤ 256)
    (hstep : ∀ (ts : List Tn) (j m a : Nat) (wr : World), 1 < m → j < m → a + m ≤ n → wayL i n 0 = ts ++ wayL j m a → Inv ts j m a wr → Calls Tryz.prog 187 #[.int .i64 (halfN m : Int), .bool (decide (j < halfN m)), .pointer (some ⟨g, 0, none⟩)] wr fun e w' => e = .returned (.tuple #[]) ∧
      if j < halfN m then Inv (ts ++ [⟨false, a + halfN m, m - halfN m⟩]) j (halfN m) a w' else Inv (ts ++ [⟨true, a, halfN m⟩]) (j - halfN m) (m - halfN m) (a + halfN m) w')
    (h0 : Inv [] i n 0 w) :
    Calls Tryz.prog 186 #[.int .i64 (i : Int), .int .i64 (n : Int), .func (.func 187) #[] #[.pointer (some ⟨g, 0, none⟩)]] w fun e w' => e = .returned (.tuple #[]) ∧ ∃ j a, Inv (wayL i n 0) j 1 a w' := by
  have HS := hid hstep
  have H0 := hid h0
  clear hstep h0
  go_enter Tryz.func186, Tryz.ntmps186
  go_wp2_with fail
  go_loopw [0, 1] (fun s0 s1 wr => ∃ (j m a : Nat) (ts : List Tn), s0 = .int .i64 (j : Int) ∧ s1 = .int .i64 (m : Int) ∧ j < m ∧ m ≤ n ∧ a + m ≤ n ∧ Hid (Inv ts j m a wr ∧ wayL i n 0 = ts ++ wayL j m a)) (fun _ s1 _ => (intOf s1).toNat)
  case atStart => exact ⟨i, n, 0, [], rfl, rfl, hi, Nat.le_refl _, by omega, hid ⟨H0.out, rfl⟩⟩
  case round =>
    obtain ⟨j, m, a, ts, rfl, rfl, hjm, hmn, ham, HI⟩ := hrel
    by_cases h1 : 1 < m
    · have hh := halfN_lt m h1
      have HC := hid (HS.out ts j m a wr h1 hjm ham HI.out.2 HI.out.1)
      have HSP := hid (split_any m wr (by omega) (by omega))
      have HL := hid (fun h => wayL_left j m a h1 h)
      have HRT := hid (fun h => wayL_right j m a h1 h)
      obtain ⟨k, hk⟩ : ∃ k, halfN m = k := ⟨_, rfl⟩
      rw [hk] at hh HC HSP HL HRT
      clear hk
      have e1 : decide ((1 : Int) < (m : Int)) = true := by simp; omega
      by_cases hjk : j < k
      · have e2 : decide ((j : Int) < (k : Int)) = true := by simp; omega
        rw [decide_eq_true hjk] at HC
        have HJK := hid hjk
        go_wp2_with fail
        refine HSP.out.mono ?_
        rintro e w2 ⟨rfl, hw2⟩
        obtain rfl := hw2.symm
        go_wp2_with fail
        refine HC.out.mono ?_
        rintro e w3 ⟨rfl, hinv⟩
        have HV := hid hinv
        clear hinv
        go_wp2_with fail
        refine ⟨⟨j, k, a, ts ++ [⟨false, a + k, m - k⟩], rfl, rfl, hjk, by omega, by omega, hid ⟨?_, ?_⟩⟩, by simp [intOf]; omega⟩
        · have := HV.out
          rwa [if_pos HJK.out] at this
        · rw [HI.out.2, HL.out HJK.out]
          simp
      · have e2 : decide ((j : Int) < (k : Int)) = false := by simp; omega
        rw [decide_eq_false hjk] at HC
        have HJK := hid hjk
        go_wp2_with fail
        refine HSP.out.mono ?_
        rintro e w2 ⟨rfl, hw2⟩
        obtain rfl := hw2.symm
        go_wp2_with fail
        refine HC.out.mono ?_
        rintro e w3 ⟨rfl, hinv⟩
        have HV := hid hinv
        clear hinv
        go_wp2_with fail
        refine ⟨⟨j - k, m - k, a + k, ts ++ [⟨true, a, k⟩], by go_num, by go_num, by omega, by omega, by omega, hid ⟨?_, ?_⟩⟩, by simp [intOf]; omega⟩
        · have := HV.out
          rwa [if_neg HJK.out] at this
        · rw [HI.out.2, HRT.out HJK.out]
          simp
    · have hge : decide ((1 : Int) < (m : Int)) = false := by simp; omega
      obtain rfl : m = 1 := by omega
      go_wp2
      go_end0
      refine ⟨rfl, j, a, ?_⟩
      have h2 := HI.out.2
      rw [wayL_one j 1 a h1, List.append_nil] at h2
      rw [h2]
      exact HI.out.1
set_option maxRecDepth 100000 in
set_option maxHeartbeats 1000000 in
theorem sides1_any (kk : Int) (b : Bool) (g base : Nat) (v : Value) (bs : List Bool) (w : World) (hr : Row w g 205 [v]) (hbase : base ≤ g) (ho : OwnT w base v bs) (hl : bs.length ≤ 1000) :
    Calls Tryz.prog 187 #[.int .i64 kk, .bool b, .pointer (some ⟨g, 0, none⟩)] w fun e w' => e = .returned (.tuple #[]) ∧ Below base w w' ∧ ∃ v', Row w' g 205 [v'] ∧ OwnT w' base v' (bs ++ [b]) := by
  have c0 := hr.cell 0
  have hlt := hr.lt
  obtain ⟨w1, hw1⟩ : ∃ w1, w.alloc (.cells #[.bool b] 4) = w1 := ⟨_, rfl⟩
  have hb1 : Below w.heap.size w w1 := by rw [← hw1]; exact (Below.refl _ _).alloc (Nat.le_refl _) _
  have HR1 := hid (hr.below hb1 hlt)
  have HN1 := hid (show Row w1 w.heap.size 4 [.bool b] by rw [← hw1]; exact Row.new _ _ _)
  have HO1 := hid (ho.below hb1)
  have HB1 := hid (hb1.mono (show base ≤ w.heap.size by omega))
  have hsz := hb1.size
  obtain ⟨oa, ca, rfl, _⟩ := ho.shape
  clear hr ho hb1
  go_enter Tryz.func187, Tryz.ntmps187
  go_wp2_with (at_builtin; refine wpList_append_T rfl (.tmp 5) (.tmp 7) rfl base _ bs rfl HO1.out w.heap.size b rfl HN1.out (by omega) (by omega) ?_; intro v2 w2 ho2 hb2 hk2; have HR2 := hid (hk2.row HR1.out (by decide)); have s0 := HR2.out.cell 0; have s1 := HR2.out.frozen 0; obtain ⟨o2, c2, hv2, _⟩ := ho2.shape; generalize (bs ++ [b]).length = m2 at hv2; subst hv2; have HO2 := hid ho2; have HB2 := hid hb2; clear ho2 hb2 hk2)
  go_end0
  exact ⟨rfl, (HB1.out.trans HB2.out).setCell (by show base ≤ g; omega) _, _, HR2.out.set 0 _, (keepT_set HR2.out 0 _).owns HO2.out (by decide)⟩
/-- what is told of the turns so far, in a variable of its own -/
def InvS (w : World) (ts : List Tn) (_ _ _ : Nat) (wr : World) : Prop := Below w.heap.size w wr ∧ ∃ v, Row wr w.heap.size 205 [v] ∧ OwnT wr w.heap.size v (ts.map (fun t => !t.right))
theorem invS_step (i n : Nat) (w : World) (hn : n ≤ 256) (ts : List Tn) (j m a : Nat) (wr : World) (hway : wayL i n 0 = ts ++ wayL j m a) (hinv : InvS w ts j m a wr) : Calls Tryz.prog 187 #[.int .i64 (halfN m : Int), .bool (decide (j < halfN m)), .pointer (some ⟨w.heap.size, 0, none⟩)] wr fun e w' => e = .returned (.tuple #[]) ∧
      if j < halfN m then InvS w (ts ++ [⟨false, a + halfN m, m - halfN m⟩]) j (halfN m) a w' else InvS w (ts ++ [⟨true, a, halfN m⟩]) (j - halfN m) (m - halfN m) (a + halfN m) w' := by
  obtain ⟨hb, v, hr, ho⟩ := hinv
  have htl : ts.length ≤ n := by
    have := wayL_length n i 0
    rw [hway, List.length_append] at this
    omega
  refine (sides1_any _ _ w.heap.size w.heap.size v _ wr hr (Nat.le_refl _) ho (by rw [List.length_map]; omega)).mono ?_
  rintro e w' ⟨rfl, hb', v', hr', ho'⟩
  refine ⟨rfl, ?_⟩
  split
  · rename_i hlt
    rw [decide_eq_true hlt] at ho'
    exact ⟨hb.trans hb', v', hr', by rw [List.map_append]; exact ho'⟩
  · rename_i hlt
    rw [decide_eq_false hlt] at ho'
    exact ⟨hb.trans hb', v', hr', by rw [List.map_append]; exact ho'⟩
set_option maxRecDepth 100000 in
set_option maxHeartbeats 1000000 in
theorem sides_any (i n : Nat) (w : World) (hi : i < n) (hn : n ≤ 256) :
    Calls Tryz.prog 166 #[.int .i64 (i : Int), .int .i64 (n : Int)] w fun e w' => Below w.heap.size w w' ∧ ∃ v, e = .returned v ∧ OwnT w' w.heap.size v ((wayL i n 0).map (fun t => !t.right)).reverse := by
  obtain ⟨w1, hw1⟩ : ∃ w1, w.alloc (.cells #[.slice none 0 0] 205) = w1 := ⟨_, rfl⟩
  have hb1 : Below w.heap.size w w1 := by rw [← hw1]; exact (Below.refl _ _).alloc (Nat.le_refl _) _
  have hr1 : Row w1 w.heap.size 205 [.slice none 0 0] := by rw [← hw1]; exact Row.new _ _ _
  have HWL := hid (wayL_length n i 0)
  have HD := hid (down_sides w.heap.size (InvS w) i n w1 hi hn (fun ts j m a wr _ _ _ hway hinv => invS_step i n w hn ts j m a wr hway hinv) ⟨hb1, _, hr1, OwnT.nil _ _⟩)
  clear hb1 hr1
  go_enter Tryz.func166, Tryz.ntmps166
  go_wp2_with fail
  refine HD.out.mono ?_
  rintro e w2 ⟨rfl, j, a, hb2, v2, hr2, ho2⟩
  have c0 := hr2.cell 0
  have hlt2 := hr2.lt
  generalize hws : (wayL i n 0).map (fun t => !t.right) = bs at ho2
  have hbl : bs.length ≤ 256 := by rw [← hws, List.length_map]; have := HWL.out; omega
  have HWS := hid hws
  have HRV := hid (revT_any bs v2 w.heap.size w2 ho2 (by omega) (by omega))
  obtain ⟨o2, c2, rfl, _⟩ := ho2.shape
  have HR2 := hid hr2
  have HB2 := hid hb2
  clear hb2 hr2 ho2 HD hws
  generalize bs.length = m2 at *
  go_wp2_with fail
  refine HRV.out.mono ?_
  rintro e w3 ⟨rfl, ho3, hb3, hk3⟩
  have HR3 := hid (hk3.row HR2.out (by decide))
  have d0 := HR3.out.cell 0
  have HO3 := hid ho3
  have HB3 := hid (HB2.out.trans hb3)
  clear ho3 hb3 hk3 HRV c0
  go_wp2
  go_ret
  exact ⟨HB3.out, _, rfl, by rw [HWS.out]; exact HO3.out⟩
end Go.Proofs.YtclhcjiblfokaaaGreatDoor
namespace Go.Proofs.YtclhcjiblfokaaaGreatDoor
open Go.RowKit

end Go.Proofs.YtclhcjiblfokaaaGreatDoor
namespace Go.Proofs.YtclhcjiblfokaaaGreatDoor
open Go.RowKit

/-- whether a proof has the form of one, whatever its digests are -/
def fitsB (p : Prf) : Prop := 1 ≤ p.size ∧ p.size ≤ 200 ∧ 0 ≤ p.index ∧ p.index < p.size ∧ p.key.length ≤ 60 ∧ p.val.length ≤ 200 ∧ p.path.length = (wayP p).length ∧ ∀ d ∈ p.path, d.length = 32
set_option maxRecDepth 100000 in
set_option maxHeartbeats 4000000 in
theorem fits_any (p : Prf) (v : Value) (N : Nat) (w : World) (hN : N ≤ w.heap.size) (hp : PrfV w N v p) (hf : p.fits) :
    Calls Tryz.prog 140 #[v] w fun e w' => Below w.heap.size w w' ∧ Tells (fitsB p) e := by
  obtain ⟨kv, vv, pv, rfl, hk, hv, hpt⟩ := hp
  obtain ⟨o1, c1, rfl, _⟩ := hk.shape
  obtain ⟨o2, c2, rfl, _⟩ := hv.shape
  obtain ⟨o3, c3, rfl, _⟩ := hpt.shape
  obtain ⟨w1, hw1⟩ : ∃ w1, w.alloc (.cells #[.int .i64 p.index, .int .i64 p.size, .slice o1 p.key.length c1, .slice o2 p.val.length c2, .slice o3 p.path.length c3] 34) = w1 := ⟨_, rfl⟩
  have hsz1 : w1.heap.size = w.heap.size + 1 := by rw [← hw1]; simp
  have hb1 : Below w.heap.size w w1 := by rw [← hw1]; exact (Below.refl _ _).alloc (Nat.le_refl _) _
  have hrow1 : Row w1 w.heap.size 34 [.int .i64 p.index, .int .i64 p.size, .slice o1 p.key.length c1, .slice o2 p.val.length c2, .slice o3 p.path.length c3] := by rw [← hw1]; exact Row.new _ _ _
  have HB1 := hid hb1
  have HR1 := hid hrow1
  have HP := hid (hpt.below (hb1.mono hN))
  have q0 := HR1.out.cell 0
  have q1 := HR1.out.cell 1
  have q2 := HR1.out.cell 2
  have q3 := HR1.out.cell 3
  have q4 := HR1.out.cell 4
  have hpl := hf.2.2.1
  clear hk hv hpt hb1 hrow1 hf
  have HSH := hid (show fitsB p ↔ (1 ≤ p.size ∧ p.size ≤ 200 ∧ 0 ≤ p.index ∧ p.index < p.size ∧ p.key.length ≤ 60 ∧ p.val.length ≤ 200 ∧ p.path.length = (wayP p).length ∧ ∀ d ∈ p.path, d.length = 32) from Iff.rfl)
  go_enter Tryz.func140, Tryz.ntmps140
  by_cases g1 : p.size < 1
  · have e1 : decide (p.size < 1) = true := by simpa using g1
    go_wp2
    go_ret
    exact ⟨HB1.out, Tells.no (fun h => by have h := HSH.out.1 h; omega)⟩
  have e1 : decide (p.size < 1) = false := by simpa using g1
  by_cases g2 : 200 < p.size
  · have e2 : decide ((200 : Int) < p.size) = true := by simpa using g2
    go_wp2
    go_ret
    exact ⟨HB1.out, Tells.no (fun h => by have h := HSH.out.1 h; omega)⟩
  have e2 : decide ((200 : Int) < p.size) = false := by simpa using g2
  by_cases g3 : p.index < 0
  · have e3 : decide (p.index < 0) = true := by simpa using g3
    go_wp2
    go_ret
    exact ⟨HB1.out, Tells.no (fun h => by have h := HSH.out.1 h; omega)⟩
  have e3 : decide (p.index < 0) = false := by simpa using g3
  by_cases g4 : p.size ≤ p.index
  · have e4 : decide (p.size ≤ p.index) = true := by simpa using g4
    go_wp2
    go_ret
    exact ⟨HB1.out, Tells.no (fun h => by have h := HSH.out.1 h; omega)⟩
  have e4 : decide (p.size ≤ p.index) = false := by simpa using g4
  obtain ⟨n, hn⟩ : ∃ n : Nat, p.size = (n : Int) := ⟨p.size.toNat, by omega⟩
  obtain ⟨i, hi⟩ : ∃ i : Nat, p.index = (i : Int) := ⟨p.index.toNat, by omega⟩
  have HSD := hid (show ∀ wx : World, Calls Tryz.prog 166 #[.int .i64 p.index, .int .i64 p.size] wx fun e w' => Below wx.heap.size wx w' ∧ ∃ v, e = .returned v ∧ OwnT w' wx.heap.size v ((wayL i n 0).map (fun t => !t.right)).reverse from fun wx => by rw [hn, hi]; exact sides_any i n wx (by omega) (by omega))
  obtain ⟨m, hm⟩ : ∃ m, (wayP p).length = m := ⟨_, rfl⟩
  have HM := hid (show (((wayL i n 0).map (fun t => !t.right)).reverse).length = m by rw [← hm]; unfold wayP; rw [hn, hi]; simp)
  rw [hm] at HSH
  have HBD := hid (show Below w.heap.size w w1.drew from HB1.out.drew)
  have HRX := hid (show ∀ wx, Below w1.heap.size w1 wx → Row wx w.heap.size 34 [.int .i64 p.index, .int .i64 p.size, .slice o1 p.key.length c1, .slice o2 p.val.length c2, .slice o3 p.path.length c3] from fun wx hx => HR1.out.below hx (by omega))
  have HG := hid (show 1 ≤ p.size ∧ p.size ≤ 200 ∧ 0 ≤ p.index ∧ p.index < p.size by omega)
  clear hn hi hm g1 g2 g3 g4
  by_cases g5 : 60 < p.key.length
  · have e5 : decide ((60 : Int) < (p.key.length : Int)) = true := by simp; omega
    go_wp2_with fail
    go_region
    go_wp2
    go_ret
    exact ⟨HBD.out, Tells.no (fun h => by have h := HSH.out.1 h; omega)⟩
  have e5 : decide ((60 : Int) < (p.key.length : Int)) = false := by simp; omega
  by_cases g6 : 200 < p.val.length
  · have e6 : decide ((200 : Int) < (p.val.length : Int)) = true := by simp; omega
    go_wp2_with fail
    go_region
    go_wp2
    go_ret
    exact ⟨HBD.out, Tells.no (fun h => by have h := HSH.out.1 h; omega)⟩
  have e6 : decide ((200 : Int) < (p.val.length : Int)) = false := by simp; omega
  have HPL := hid (show ∀ w5 : World, Below w.heap.size w w5 → Below w1.heap.size w1 w5 → Calls Tryz.prog 167 #[.slice o3 p.path.length c3, .func (.func 168) #[] #[]] w5 fun e w' => w' = w5 ∧ ∃ b, e = .returned (.bool b) ∧ (b = true ↔ ∃ d ∈ p.path, d.length ≠ 32) from fun w5 _ hx => contains_any p.path _ N w5 (HP.out.below (hx.mono (by omega))) hpl)
  have HKL := hid (show p.key.length ≤ 60 ∧ p.val.length ≤ 200 by omega)
  generalize hlp : p.path.length = mp at *
  clear hlp g5 g6
  have HSZ := hid hsz1
  have HBC := hid (show ∀ W, Below w1.heap.size w1 W → (W.cell? ⟨w.heap.size, 0, none⟩ = some (.int .i64 p.index) ∧ W.cell? ⟨w.heap.size, 1, none⟩ = some (.int .i64 p.size)) ∧ (W.cell? ⟨w.heap.size, 2, none⟩ = some (.slice o1 p.key.length c1) ∧ W.cell? ⟨w.heap.size, 3, none⟩ = some (.slice o2 p.val.length c2)) ∧ W.cell? ⟨w.heap.size, 4, none⟩ = some (.slice o3 mp c3) from fun wx hx => ⟨⟨(HRX.out wx hx).cell 0, (HRX.out wx hx).cell 1⟩, ⟨(HRX.out wx hx).cell 2, (HRX.out wx hx).cell 3⟩, (HRX.out wx hx).cell 4⟩)
  have s1 := HBC.out w1 (Below.refl _ _)
  have s1d := HBC.out w1.drew (Below.refl _ _).drew
  clear hsz1
  by_cases hlen : mp = m
  · subst hlen
    have e7 : ((mp : Int) != (mp : Int)) = false := by simp
    go_wp2_with fail
    go_region_held3 (fun W => (W.cell? ⟨w.heap.size, 0, none⟩ = some (.int .i64 p.index) ∧ W.cell? ⟨w.heap.size, 1, none⟩ = some (.int .i64 p.size)) ∧ (W.cell? ⟨w.heap.size, 2, none⟩ = some (.slice o1 p.key.length c1) ∧ W.cell? ⟨w.heap.size, 3, none⟩ = some (.slice o2 p.val.length c2)) ∧ W.cell? ⟨w.heap.size, 4, none⟩ = some (.slice o3 mp c3)) (first | assumption) (first | (go_at_call 166; refine (HSD.out w1.drew).mono ?_; rintro e w2 ⟨hb2, v2, rfl, ho2⟩; obtain ⟨o4, c4, hv4, _⟩ := ho2.shape; rw [HM.out] at hv4; subst hv4; have HB2 := hid (show Below w1.heap.size w1 w2 from (show Below w1.heap.size w1 w1.drew from (Below.refl _ _).drew).trans hb2); have s2 := HBC.out w2 HB2.out; clear hb2 ho2))
    all_goals
      have HB02 := hid (HB1.out.trans (HB2.out.mono (by have := HSZ.out; omega)))
      go_wp2_with fail
      refine (HPL.out w2 HB02.out HB2.out).mono ?_
      rintro e w3 ⟨hw3, b, rfl, hb⟩
      obtain rfl := hw3.symm
      have HBB := hid hb
      clear hb
      cases b with
      | true =>
        go_wp2
        go_ret
        obtain ⟨d, hd, hne⟩ := HBB.out.1 (by trivial)
        exact ⟨HB02.out, Tells.no (fun h => by have h := HSH.out.1 h; exact hne (h.2.2.2.2.2.2.2 d hd))⟩
      | false =>
        go_wp2
        go_ret
        refine ⟨HB02.out, Tells.yes (HSH.out.2 ⟨HG.out.1, HG.out.2.1, HG.out.2.2.1, HG.out.2.2.2, HKL.out.1, HKL.out.2, by trivial, fun d hd => ?_⟩)⟩
        by_cases h32 : d.length = 32
        · exact h32
        · exact absurd (HBB.out.2 ⟨d, hd, h32⟩) (by simp)
  · have e7 : ((mp : Int) != (m : Int)) = true := by simp; omega
    go_wp2_with fail
    go_region_held3 (fun W => (W.cell? ⟨w.heap.size, 0, none⟩ = some (.int .i64 p.index) ∧ W.cell? ⟨w.heap.size, 1, none⟩ = some (.int .i64 p.size)) ∧ (W.cell? ⟨w.heap.size, 2, none⟩ = some (.slice o1 p.key.length c1) ∧ W.cell? ⟨w.heap.size, 3, none⟩ = some (.slice o2 p.val.length c2)) ∧ W.cell? ⟨w.heap.size, 4, none⟩ = some (.slice o3 mp c3)) (first | assumption) (first | (go_at_call 166; refine (HSD.out w1.drew).mono ?_; rintro e w2 ⟨hb2, v2, rfl, ho2⟩; obtain ⟨o4, c4, hv4, _⟩ := ho2.shape; rw [HM.out] at hv4; subst hv4; have HB2 := hid (show Below w1.heap.size w1 w2 from (show Below w1.heap.size w1 w1.drew from (Below.refl _ _).drew).trans hb2); have s2 := HBC.out w2 HB2.out; clear hb2 ho2))
    all_goals
      have HB02 := hid (HB1.out.trans (HB2.out.mono (by have := HSZ.out; omega)))
      go_wp2
      go_ret
      exact ⟨HB02.out, Tells.no (fun h => by have h := HSH.out.1 h; exact hlen h.2.2.2.2.2.2.1)⟩
end Go.Proofs.YtclhcjiblfokaaaGreatDoor
namespace Go.Proofs.YtclhcjiblfokaaaGreatDoor
open Go.RowKit

theorem OwnL.one {w : World} {base : Nat} {y : Value} {l : List (BitVec 8)} (hy : OwnB w base y l) (hb : base ≤ w.heap.size) (w1 : World) (hw : w.alloc (.cells #[y] 29) = w1) : OwnL w1 base (.slice (some ⟨w.heap.size, 0, none⟩) 1 1) [l] := by
  subst hw
  refine ⟨[⟨y, l⟩], rfl, ⟨rfl, .inr ⟨w.heap.size, 1, #[y], rfl, hb, heap_alloc_new w _, Nat.le_refl _, by unfold maxLen; decide, rfl, rfl⟩⟩, fun q hq => ?_⟩
  obtain rfl : q = ⟨y, l⟩ := by simpa using hq
  exact OwnB.alloc hy _
theorem OwnL.get {w : World} {base : Nat} {oa : Option Addr} {n cap : Nat} {ls : List (List (BitVec 8))} (h : OwnL w base (.slice oa n cap) ls) (i : Nat) (l : List (BitVec 8)) (hi : ls[i]? = some l) : ∃ g y, oa = some ⟨g, 0, none⟩ ∧ w.cell? ⟨g, i, none⟩ = some y ∧ OwnB w base y l := by
  obtain ⟨ys, rfl, ⟨h1, h2⟩, h3⟩ := h
  obtain ⟨y, hy, rfl⟩ : ∃ y, ys[i]? = some y ∧ y.l = l := by simpa using hi
  have hil : i < ys.length := (List.getElem?_eq_some_iff.1 hy).1
  rcases h2 with ⟨_, h0⟩ | ⟨g, c, cur, hv, hb, hg, hn, hm, hc, hx⟩
  · omega
  · simp at hv
    refine ⟨g, y.v, hv.1, ?_, h3 y (List.mem_of_getElem? hy)⟩
    rw [cell_of_row w g _ cur _ _ hg, ← Array.getElem?_toList]
    have e := congrArg (fun l : List Value => l[i]?) hx
    simp only [List.getElem?_take, Nat.mul_one] at e
    rw [if_pos hil] at e
    rw [e, List.getElem?_map, hy]
    rfl
set_option maxRecDepth 100000 in
set_option maxHeartbeats 4000000 in
theorem layers_any (p : Prf) (v : Value) (N : Nat) (w : World) (hT : tableAt w) (hN : N ≤ w.heap.size) (hp : PrfV w N v p) (h1 : 1 ≤ p.size) (h2 : p.size ≤ 200) (h3 : 0 ≤ p.index) (h4 : p.index < p.size) (h5 : p.key.length ≤ 60) (h6 : p.val.length ≤ 200) (h7 : p.path.length = (wayP p).length) (h8 : ∀ d ∈ p.path, d.length = 32) :
    Calls Tryz.prog 141 #[v] w fun e w' => Below w.heap.size w w' ∧ ∃ r, e = .returned r ∧ OwnL w' w.heap.size r (layP p) := by
  obtain ⟨kv, vv, pv, rfl, hk, hv, hpt⟩ := hp
  obtain ⟨o1, c1, rfl, _⟩ := hk.shape
  obtain ⟨o2, c2, rfl, _⟩ := hv.shape
  obtain ⟨o3, c3, rfl, _⟩ := hpt.shape
  obtain ⟨w1, hw1⟩ : ∃ w1, w.alloc (.cells #[.int .i64 p.index, .int .i64 p.size, .slice o1 p.key.length c1, .slice o2 p.val.length c2, .slice o3 p.path.length c3] 34) = w1 := ⟨_, rfl⟩
  have hsz1 : w1.heap.size = w.heap.size + 1 := by rw [← hw1]; simp
  have hb1 : Below w.heap.size w w1 := by rw [← hw1]; exact (Below.refl _ _).alloc (Nat.le_refl _) _
  have hrow1 : Row w1 w.heap.size 34 [.int .i64 p.index, .int .i64 p.size, .slice o1 p.key.length c1, .slice o2 p.val.length c2, .slice o3 p.path.length c3] := by rw [← hw1]; exact Row.new _ _ _
  have HB1 := hid hb1
  have HT := hid (hT.past hb1)
  have HPT := hid (hpt.below (hb1.mono hN))
  have HRX := hid (show ∀ wx, Below w1.heap.size w1 wx → Row wx w.heap.size 34 [.int .i64 p.index, .int .i64 p.size, .slice o1 p.key.length c1, .slice o2 p.val.length c2, .slice o3 p.path.length c3] from fun wx hx => hrow1.below hx (by omega))
  have HLF := hid (pairBytes_any p.key p.val (.slice o1 p.key.length c1) (.slice o2 p.val.length c2) N w1 (by omega) (hk.below (hb1.mono hN)) (hv.below (hb1.mono hN)) (by omega) (by omega))
  have q2 := hrow1.cell 2
  have q3 := hrow1.cell 3
  obtain ⟨n, hn⟩ : ∃ n : Nat, p.size = (n : Int) := ⟨p.size.toNat, by omega⟩
  obtain ⟨i, hi⟩ : ∃ i : Nat, p.index = (i : Int) := ⟨p.index.toNat, by omega⟩
  obtain ⟨ws, hws⟩ : ∃ ws, wayP p = ws := ⟨_, rfl⟩
  have hwl : wayL i n 0 = ws := by rw [← hws]; unfold wayP; rw [hn, hi]; rfl
  have HWL := hid (show ws.length ≤ 200 by rw [← hwl]; have := wayL_length n i 0; omega)
  have HSD := hid (show ∀ wx : World, Calls Tryz.prog 166 #[.int .i64 p.index, .int .i64 p.size] wx fun e w' => Below wx.heap.size wx w' ∧ ∃ v, e = .returned v ∧ OwnT w' wx.heap.size v (ws.map (fun t => !t.right)).reverse from fun wx => by rw [hn, hi, ← hwl]; exact sides_any i n wx (by omega) (by omega))
  have HLP := hid (show layP p = topX n (upD ws p.path.reverse (leafD p.key p.val)) :: layD ws p.path.reverse (leafX p.key p.val) by unfold layP; rw [hws, hn]; rfl)
  rw [hws] at h7
  have H7 := hid h7
  have H8 := hid h8
  have HSZN := hid hn
  have HKL := hid (show p.key.length ≤ 60 ∧ p.val.length ≤ 200 ∧ n ≤ 200 by omega)
  clear hk hv hpt hb1 hrow1 hT hws hwl hn hi h1 h2 h3 h4 h5 h6 h7 h8
  go_enter Tryz.func141, Tryz.ntmps141
  go_wp2_with fail
  refine HLF.out.mono ?_
  rintro e w2 ⟨o4, n4, c4, rfl, hown4, hb4⟩
  have hz2 := hb4.size
  obtain ⟨w3, hw3⟩ : ∃ w3, w2.alloc (.cells #[.slice o4 n4 c4] 29) = w3 := ⟨_, rfl⟩
  have hb3 : Below w2.heap.size w2 w3 := by rw [← hw3]; exact (Below.refl _ _).alloc (Nat.le_refl _) _
  have hz3 := hb3.size
  have HL3 := hid (OwnL.one hown4 hz2 w3 hw3)
  have HB3 := hid (hb4.trans (hb3.mono hz2))
  have q := (show Row w3 w2.heap.size 29 [.slice o4 n4 c4] by rw [← hw3]; exact Row.new _ _ _).cell 0
  have HSM := hid (sumC _ _ w3.heap.size w3 (Nat.le_refl _) ((hown4.bytes.below hb3).mono hz3) (HT.out.past HB3.out) (by have := HKL.out; simp [fourB]; omega))
  clear hown4 hb4 hb3 HLF
  go_wp2_with fail
  refine HSM.out.mono ?_
  rintro e w4 ⟨o5, c5, rfl, hown5, hb5⟩
  have hz4 := hb5.size
  have HB4 := hid (HB3.out.trans (hb5.mono (by omega)))
  have HL4 := hid (HL3.out.below hb5)
  have HU4 := hid (hown5.mono (show w1.heap.size ≤ w3.heap.size by omega))
  have HR4 := hid (HRX.out w4 HB4.out)
  have r0 := HR4.out.cell 0
  have r1 := HR4.out.cell 1
  clear hown5 hb5 HSM q q2 q3
  go_wp2_with fail
  refine (HSD.out w4).mono ?_
  rintro e w5 ⟨hb6, sv, rfl, ho6⟩
  have hz5 := hb6.size
  obtain ⟨o6, c6, hsv, _⟩ := ho6.shape
  rw [List.length_reverse, List.length_map] at hsv
  subst hsv
  have HB5 := hid (HB4.out.trans (hb6.mono (by omega)))
  have HL5 := hid (HL4.out.below hb6)
  have HU5 := hid (HU4.out.below hb6)
  have HS5 := hid ho6
  clear hb6 ho6 HSD r0 r1
  generalize hm : ws.length = m at *
  have HM := hid hm
  have hm200 : m ≤ 200 := HWL.out
  clear hm
  go_wp2_with fail
  go_loopw [3, 4, 25] (fun s3 s4 s25 wr => ∃ k : Nat, k ≤ m ∧ s25 = .int .i64 (k : Int) ∧ Hid (Below w1.heap.size w1 wr ∧ OwnL wr w1.heap.size s3 (layK ws p.path k (leafX p.key p.val)) ∧ OwnB wr w1.heap.size s4 (upK ws p.path k (leafD p.key p.val)) ∧ OwnT wr w4.heap.size (.slice o6 m c6) (ws.map (fun t => !t.right)).reverse)) (fun _ _ s25 _ => m - (intOf s25).toNat)
  case atStart => exact ⟨0, Nat.zero_le _, rfl, hid ⟨HB5.out, by rw [layK_zero]; exact HL5.out, by rw [upK_zero]; exact HU5.out, HS5.out⟩⟩
  case round =>
    obtain ⟨k, hk, rfl, HR⟩ := hrel
    by_cases hlt : k < m
    · have hszr := HR.out.1.size
      have HRr := hid (HRX.out wr HR.out.1)
      have r4 := HRr.out.cell 4
      obtain ⟨b, o, ho3, hc⟩ := HPT.out.some (by rw [H7.out]; omega)
      obtain ⟨hbN, x, hx, hbx⟩ := hc k (by rw [H7.out]; exact hlt)
      subst ho3
      obtain ⟨d, hd⟩ : ∃ d, p.path.getD k [] = d := ⟨_, rfl⟩
      have hdk : p.path[k]? = some d := by rw [← hd]; exact getD_some _ _ _ (by rw [H7.out]; exact hlt)
      rw [hd] at hbx
      have h32 := H8.out d (List.mem_of_getElem? hdk)
      obtain ⟨od, cd, rfl, _⟩ := hbx.shape
      have f0 := (HR.out.1.cell (p := ⟨b, o + k, none⟩) (show b < w1.heap.size by omega)).trans hx
      have HDB := hid (hbx.below (HR.out.1.mono (show N ≤ w1.heap.size by omega)))
      obtain ⟨t, ht⟩ : ∃ t, ws[m - 1 - k]? = some t := ⟨ws[m - 1 - k]'(by rw [HM.out]; omega), List.getElem?_eq_getElem _⟩
      obtain ⟨gs, hgs, _, _, hcs⟩ := HR.out.2.2.2.get (by omega)
      subst hgs
      have k0 := hcs k (!t.right) (by
        rw [List.getElem?_reverse (by rw [List.length_map, HM.out]; exact hlt), List.length_map, HM.out, List.getElem?_map, ht]
        rfl)
      have HUP := hid (upK_succ ws p.path k (leafD p.key p.val) t d (by rw [HM.out]; exact ht) (by rw [HM.out]; exact hlt) hdk)
      have HLY := hid (layK_succ ws p.path k (leafX p.key p.val) t d (by rw [HM.out]; exact ht) (by rw [HM.out]; exact hlt) hdk)
      rw [show sha (leafX p.key p.val) = leafD p.key p.val from rfl] at HLY
      obtain ⟨u, hu⟩ : ∃ u, upK ws p.path k (leafD p.key p.val) = u := ⟨_, rfl⟩
      have hu32 : u.length = 32 := by rw [← hu]; exact upK_len _ _ _ _ (by unfold leafD; exact sha_length _)
      rw [hu] at HUP HLY
      have HRB := hid HR.out.1
      have HRL := hid HR.out.2.1
      have HRU := hid (show OwnB wr w1.heap.size u4 u by rw [← hu]; exact HR.out.2.2.1)
      have HRS := hid HR.out.2.2.2
      have HLK := hid (show (layK ws p.path k (leafX p.key p.val)).length ≤ 1000000 by
        unfold layK
        rw [List.length_reverse, layD_length _ _ _ (by simp; have := H7.out; have := HM.out; omega), List.length_drop]
        have := HWL.out; have := HM.out
        omega)
      obtain ⟨oy, cy, hsy, _⟩ := HRU.out.shape
      rw [hu32] at hsy
      subst hsy
      rw [h32] at f0 HDB
      have hlt' : (k : Int) < (m : Int) := by omega
      have HLT := hid hlt
      have hltp : (k : Int) < (p.path.length : Int) := by rw [H7.out]; omega
      have HFK := hid (forkBytes_any d u (.slice od 32 cd) (.slice oy 32 cy) wr.heap.size wr (Nat.le_refl _) (HDB.out.mono (by omega)) HRU.out.bytes (by omega) (by omega))
      have HFK2 := hid (show ∀ wx, Below wr.heap.size wr wx → Calls Tryz.prog 170 #[.slice oy 32 cy, .slice od 32 cd] wx fun e w' => ∃ oa n cap, e = .returned (.slice oa n cap) ∧ OwnB w' wx.heap.size (.slice oa n cap) (nodeX u d) ∧ Below wx.heap.size wx w' from fun wx hx => by
        have := hx.size
        exact forkBytes_any u d (.slice oy 32 cy) (.slice od 32 cd) wx.heap.size wx (Nat.le_refl _) ((HRU.out.bytes.below hx).mono hx.size) ((HDB.out.below (hx.mono (by omega))).mono (by omega)) (by omega) (by omega))
      have HSZR := hid (show w1.heap.size ≤ wr.heap.size from hszr)
      have HRX4 := hid (show ∀ wx, Below wr.heap.size wr wx → wx.cell? ⟨w.heap.size, 4, none⟩ = some (.slice (some ⟨b, o, none⟩) p.path.length c3) ∧ wx.cell? ⟨b, o + k, none⟩ = some (.slice od 32 cd) from fun wx hx =>
        ⟨(HRr.out.below hx (by omega)).cell 4, (hx.cell (p := ⟨b, o + k, none⟩) (show b < wr.heap.size by omega)).trans f0⟩)
      have H32 := hid h32
      have HU32 := hid hu32
      clear hc hx hbx hd hdk ht hcs hu h32 hu32 HR
      cases htr : t.right with
      | true =>
        rw [htr] at k0 HUP HLY
        have HLS := hid (show layK ws p.path (k + 1) (leafX p.key p.val) = layK ws p.path k (leafX p.key p.val) ++ [nodeX d u] from HLY.out)
        have HUS := hid (show upK ws p.path (k + 1) (leafD p.key p.val) = sha (nodeX d u) from HUP.out)
        have HXL := hid (show (nodeX d u).length ≤ 1000000 by rw [nodeX_len, H32.out, HU32.out]; decide)
        clear htr HUP HLY
        go_wp2_with fail
        refine HFK.out.mono ?_
        rintro e w6 ⟨o7, n7, c7, rfl, hown7, hb7⟩
        have hz7 := hb7.size
        have HF7 := hid (show OwnB w6 w1.heap.size (.slice o7 n7 c7) (nodeX d u) from hown7.mono HSZR.out)
        have HB7 := hid (HRB.out.trans (hb7.mono HSZR.out))
        have HL7 := hid (HRL.out.below hb7)
        have HS7 := hid (HRS.out.below hb7)
        clear hown7 hb7 HFK
        obtain ⟨w8, hw8⟩ : ∃ w8, w6.alloc (.cells #[.slice o7 n7 c7] 29) = w8 := ⟨_, rfl⟩
        have hb8 : Below w6.heap.size w6 w8 := by rw [← hw8]; exact (Below.refl _ _).alloc (Nat.le_refl _) _
        have hz8 := hb8.size
        have HN8 := hid (show Row w8 w6.heap.size 29 [.slice o7 n7 c7] by rw [← hw8]; exact Row.new _ _ _)
        have HL8 := hid (HL7.out.below hb8)
        have HF8 := hid (HF7.out.below hb8)
        have HS8 := hid (HS7.out.below hb8)
        have HB8 := hid (HB7.out.trans (hb8.mono (show w1.heap.size ≤ w6.heap.size from HB7.out.size)))
        have hbs8 : w1.heap.size ≤ w8.heap.size := HB8.out.size
        clear hb8
        go_wp2_with (at_builtin; refine wpList_append_L rfl (.tmp 45) (.tmp 47) rfl w1.heap.size _ _ rfl HL8.out w6.heap.size (.slice o7 n7 c7) _ rfl HN8.out HF8.out HLK.out hbs8 ?_; intro v9 w9 ho9 hb9 hk9; have HO9 := hid ho9; have HB9 := hid (HB8.out.trans hb9); have HS9 := hid (show OwnT w9 _ _ _ from hk9.owns HS8.out (by decide)); have HF9 := hid (show OwnB w9 _ _ _ from hk9.owns HF8.out (by decide)); obtain ⟨o9, c9, hv9, _⟩ := ho9.shape; generalize (layK ws p.path k (leafX p.key p.val) ++ [nodeX d u]).length = n9 at hv9; subst hv9; clear ho9 hb9 hk9)
        have HSM := hid (sumC (nodeX d u) (.slice o7 n7 c7) w9.heap.size w9 (Nat.le_refl _) HF9.out.bytes (HT.out.past HB9.out) HXL.out)
        go_wp2_with fail
        refine HSM.out.mono ?_
        rintro e w10 ⟨o10, c10, rfl, hown10, hb10⟩
        have hz9 := HB9.out.size
        have HU10 := hid (hown10.mono hz9)
        have HB10 := hid (HB9.out.trans (hb10.mono hz9))
        have HL10 := hid (HO9.out.below hb10)
        have HS10 := hid (HS9.out.below hb10)
        clear hown10 hb10 HSM
        go_wp2_with fail
        exact ⟨⟨k + 1, HLT.out, by go_num, hid ⟨HB10.out, by rw [HLS.out]; exact HL10.out, by rw [HUS.out]; exact HU10.out, HS10.out⟩⟩, by simp [intOf]; omega⟩
      | false =>
        rw [htr] at k0 HUP HLY
        have HLS := hid (show layK ws p.path (k + 1) (leafX p.key p.val) = layK ws p.path k (leafX p.key p.val) ++ [nodeX u d] from HLY.out)
        have HUS := hid (show upK ws p.path (k + 1) (leafD p.key p.val) = sha (nodeX u d) from HUP.out)
        have HXL := hid (show (nodeX u d).length ≤ 1000000 by rw [nodeX_len, H32.out, HU32.out]; decide)
        clear htr HUP HLY
        go_wp2_with fail
        refine HFK.out.mono ?_
        rintro e w6 ⟨o7, n7, c7, rfl, hown7, hb7⟩
        have hz7 := hb7.size
        have HBr6 := hid hb7
        have s6 := HRX4.out w6 hb7
        clear hown7 HFK
        go_wp2_with fail
        refine (HFK2.out w6 HBr6.out).mono ?_
        rintro e w7 ⟨o8, n8, c8, rfl, hown8, hb8⟩
        have HBr7 := hid (HBr6.out.trans (hb8.mono hz7))
        have HF7 := hid (show OwnB w7 w1.heap.size (.slice o8 n8 c8) (nodeX u d) from hown8.mono (by have := HSZR.out; omega))
        have HB7 := hid (HRB.out.trans (HBr7.out.mono HSZR.out))
        have HL7 := hid (HRL.out.below HBr7.out)
        have HS7 := hid (HRS.out.below HBr7.out)
        clear hown8 hb8 hb7
        obtain ⟨w8, hw8⟩ : ∃ w8, w7.alloc (.cells #[.slice o8 n8 c8] 29) = w8 := ⟨_, rfl⟩
        have hb8 : Below w7.heap.size w7 w8 := by rw [← hw8]; exact (Below.refl _ _).alloc (Nat.le_refl _) _
        have hz8 := hb8.size
        have HN8 := hid (show Row w8 w7.heap.size 29 [.slice o8 n8 c8] by rw [← hw8]; exact Row.new _ _ _)
        have HL8 := hid (HL7.out.below hb8)
        have HF8 := hid (HF7.out.below hb8)
        have HS8 := hid (HS7.out.below hb8)
        have HB8 := hid (HB7.out.trans (hb8.mono (show w1.heap.size ≤ w7.heap.size from HB7.out.size)))
        have hbs8 : w1.heap.size ≤ w8.heap.size := HB8.out.size
        clear hb8
        go_wp2_with (at_builtin; refine wpList_append_L rfl (.tmp 45) (.tmp 47) rfl w1.heap.size _ _ rfl HL8.out w7.heap.size (.slice o8 n8 c8) _ rfl HN8.out HF8.out HLK.out hbs8 ?_; intro v9 w9 ho9 hb9 hk9; have HO9 := hid ho9; have HB9 := hid (HB8.out.trans hb9); have HS9 := hid (show OwnT w9 _ _ _ from hk9.owns HS8.out (by decide)); have HF9 := hid (show OwnB w9 _ _ _ from hk9.owns HF8.out (by decide)); obtain ⟨o9, c9, hv9, _⟩ := ho9.shape; generalize (layK ws p.path k (leafX p.key p.val) ++ [nodeX u d]).length = n9 at hv9; subst hv9; clear ho9 hb9 hk9)
        have HSM := hid (sumC (nodeX u d) (.slice o8 n8 c8) w9.heap.size w9 (Nat.le_refl _) HF9.out.bytes (HT.out.past HB9.out) HXL.out)
        go_wp2_with fail
        refine HSM.out.mono ?_
        rintro e w10 ⟨o10, c10, rfl, hown10, hb10⟩
        have hz9 := HB9.out.size
        have HU10 := hid (hown10.mono hz9)
        have HB10 := hid (HB9.out.trans (hb10.mono hz9))
        have HL10 := hid (HO9.out.below hb10)
        have HS10 := hid (HS9.out.below hb10)
        clear hown10 hb10 HSM
        go_wp2_with fail
        exact ⟨⟨k + 1, HLT.out, by go_num, hid ⟨HB10.out, by rw [HLS.out]; exact HL10.out, by rw [HUS.out]; exact HU10.out, HS10.out⟩⟩, by simp [intOf]; omega⟩
    · have hge : decide ((k : Int) < (m : Int)) = false := by simp; omega
      have hkm : k = m := by omega
      have hszr := HR.out.1.size
      have HRr := hid (HRX.out wr HR.out.1)
      have r1 := HRr.out.cell 1
      obtain ⟨u, hu⟩ : ∃ u, upK ws p.path k (leafD p.key p.val) = u := ⟨_, rfl⟩
      have hu32 : u.length = 32 := by rw [← hu]; exact upK_len _ _ _ _ (by unfold leafD; exact sha_length _)
      have HRB := hid HR.out.1
      have HRL := hid HR.out.2.1
      have HRU := hid (show OwnB wr w1.heap.size u4 u by rw [← hu]; exact HR.out.2.2.1)
      have HUA := hid (show u = upD ws p.path.reverse (leafD p.key p.val) by
        rw [← hu, hkm, ← HM.out]
        exact upK_all ws p.path _ (by rw [H7.out, HM.out]))
      have HLA := hid (show layK ws p.path k (leafX p.key p.val) = (layD ws p.path.reverse (leafX p.key p.val)).reverse by
        rw [hkm, ← HM.out]
        exact layK_all ws p.path _ (by rw [H7.out, HM.out]))
      have HLK := hid (show (layK ws p.path k (leafX p.key p.val)).length ≤ 1000000 by
        rw [HLA.out, List.length_reverse, layD_length _ _ _ (by rw [List.length_reverse, H7.out, HM.out])]
        have := HWL.out; have := HM.out
        omega)
      have HBK := hid (bookBytes_any n u u4 wr.heap.size wr (Nat.le_refl _) HRU.out.bytes (by have := HKL.out; omega) (by omega))
      rw [← HSZN.out] at HBK
      have HSZR := hid (show w1.heap.size ≤ wr.heap.size from hszr)
      clear HR hkm hu hu32
      go_wp2_with fail
      refine HBK.out.mono ?_
      rintro e w6 ⟨o7, n7, c7, rfl, hown7, hb7⟩
      have HF7 := hid (show OwnB w6 w1.heap.size (.slice o7 n7 c7) (topX n u) from hown7.mono HSZR.out)
      have HB7 := hid (HRB.out.trans (hb7.mono HSZR.out))
      have HL7 := hid (HRL.out.below hb7)
      obtain ⟨w8, hw8⟩ : ∃ w8, w6.alloc (.cells #[.slice o7 n7 c7] 29) = w8 := ⟨_, rfl⟩
      have hb8 : Below w6.heap.size w6 w8 := by rw [← hw8]; exact (Below.refl _ _).alloc (Nat.le_refl _) _
      have HN8 := hid (show Row w8 w6.heap.size 29 [.slice o7 n7 c7] by rw [← hw8]; exact Row.new _ _ _)
      have HL8 := hid (HL7.out.below hb8)
      have HF8 := hid (HF7.out.below hb8)
      have HB8 := hid (HB7.out.trans (hb8.mono (show w1.heap.size ≤ w6.heap.size from HB7.out.size)))
      have hbs8 : w1.heap.size ≤ w8.heap.size := HB8.out.size
      clear hb8 hown7 hb7 HBK
      go_wp2_with (at_builtin; refine wpList_append_L rfl (.tmp 52) (.tmp 57) rfl w1.heap.size _ _ rfl HL8.out w6.heap.size (.slice o7 n7 c7) _ rfl HN8.out HF8.out HLK.out hbs8 ?_; intro v9 w9 ho9 hb9 hk9; have HO9 := hid ho9; have HB9 := hid (HB8.out.trans hb9); clear ho9 hb9 hk9)
      have hz9 := HB9.out.size
      refine (revL_any _ v9 w1.heap.size w9 HO9.out hz9 (by rw [List.length_append]; have := HLK.out; have := HWL.out; rw [HLA.out, List.length_reverse, layD_length _ _ _ (by rw [List.length_reverse, H7.out, HM.out])]; have := HM.out; simp; omega)).mono ?_
      rintro e w10 ⟨rfl, ho10, hb10, _⟩
      have HO10 := hid ho10
      have HB10 := hid (HB9.out.trans hb10)
      clear ho10 hb10
      go_wp2
      go_ret
      refine ⟨HB1.out.trans (HB10.out.mono (by omega)), _, rfl, ?_⟩
      have h := HO10.out.mono (show w.heap.size ≤ w1.heap.size by omega)
      rw [HLA.out, HUA.out, List.reverse_append, List.reverse_singleton, List.reverse_reverse, List.singleton_append] at h
      rw [HLP.out]
      exact h
end Go.Proofs.YtclhcjiblfokaaaGreatDoor
namespace Go.Proofs.YtclhcjiblfokaaaGreatDoor
open Go.RowKit

def ShownC (f : FuncId) : Prop := ∀ (r : List (BitVec 8)) (p : Prf) (rv v : Value) (N : Nat) (w : World), tableAt w → N ≤ w.heap.size → Bytes w N rv r → PrfV w N v p → p.fits → r.length ≤ 140737488351232 →
  Calls Tryz.prog f #[rv, v] w fun e w' => Below w.heap.size w w' ∧ Tells (shownB r p) e
def AbsentC (f : FuncId) : Prop := ∀ (r k : List (BitVec 8)) (g : Gp) (rv kv v : Value) (N : Nat) (w : World), tableAt w → N ≤ w.heap.size → Bytes w N rv r → Bytes w N kv k → GpV w N v g → g.fits → r.length ≤ 140737488351232 → k.length ≤ 140737488351232 →
  Calls Tryz.prog f #[rv, kv, v] w fun e w' => Below w.heap.size w w' ∧ Tells (absentB r k g) e
end Go.Proofs.YtclhcjiblfokaaaGreatDoor
namespace Go.Proofs.YtclhcjiblfokaaaGreatDoor
open Go.RowKit

theorem shownB_iff (r : List (BitVec 8)) (p : Prf) : shownB r p ↔ fitsB p ∧ sha (topX p.size.toNat (upD (wayP p) p.path.reverse (leafD p.key p.val))) = r := by
  unfold shownB fitsB
  constructor
  · rintro ⟨a, b, c, d, e, f, g, h, i⟩
    exact ⟨⟨a, b, c, d, e, f, g, h⟩, i⟩
  · rintro ⟨⟨a, b, c, d, e, f, g, h⟩, i⟩
    exact ⟨a, b, c, d, e, f, g, h, i⟩
set_option maxRecDepth 100000 in
set_option maxHeartbeats 4000000 in
theorem shownC : ShownC 98 := by
  intro r p rv v N w hT hN hr hp hf hrl
  obtain ⟨orr, cr, rfl, _⟩ := hr.shape
  have HPV := hid hp
  obtain ⟨kv, vv, pv, rfl, hk, hv, hpt⟩ := hp
  obtain ⟨o1, c1, rfl, _⟩ := hk.shape
  obtain ⟨o2, c2, rfl, _⟩ := hv.shape
  obtain ⟨o3, c3, rfl, _⟩ := hpt.shape
  obtain ⟨w1, hw1⟩ : ∃ w1, w.alloc (.cells #[.int .i64 p.index, .int .i64 p.size, .slice o1 p.key.length c1, .slice o2 p.val.length c2, .slice o3 p.path.length c3] 34) = w1 := ⟨_, rfl⟩
  have hsz1 : w1.heap.size = w.heap.size + 1 := by rw [← hw1]; simp
  have hb1 : Below w.heap.size w w1 := by rw [← hw1]; exact (Below.refl _ _).alloc (Nat.le_refl _) _
  have hrow1 : Row w1 w.heap.size 34 [.int .i64 p.index, .int .i64 p.size, .slice o1 p.key.length c1, .slice o2 p.val.length c2, .slice o3 p.path.length c3] := by rw [← hw1]; exact Row.new _ _ _
  have HB1 := hid hb1
  have HT := hid hT
  have HRT := hid hr
  have HFI := hid (fits_any p _ N w1 (by omega) (HPV.out.below (hb1.mono hN)) hf)
  have HRX := hid (show ∀ wx, Below w1.heap.size w1 wx → Row wx w.heap.size 34 [.int .i64 p.index, .int .i64 p.size, .slice o1 p.key.length c1, .slice o2 p.val.length c2, .slice o3 p.path.length c3] from fun wx hx => hrow1.below hx (by omega))
  have q0 := hrow1.cell 0
  have q1 := hrow1.cell 1
  have q2 := hrow1.cell 2
  have q3 := hrow1.cell 3
  have q4 := hrow1.cell 4
  clear hk hv hpt hb1 hrow1 hT hr hf
  generalize hrn : r.length = rn at *
  clear hrn
  go_enter Tryz.func98, Tryz.ntmps98
  go_wp2_with fail
  refine HFI.out.mono ?_
  rintro e w2 ⟨hb2, bb, rfl, hbb⟩
  have HBB := hid hbb
  have hz2 := hb2.size
  have HB2 := hid hb2
  have HBW2 := hid (HB1.out.trans (hb2.mono (by omega)))
  have HR2 := hid (HRX.out w2 hb2)
  have r0 := HR2.out.cell 0
  have r1 := HR2.out.cell 1
  have r2 := HR2.out.cell 2
  have r3 := HR2.out.cell 3
  have r4 := HR2.out.cell 4
  clear hb2 hbb HFI q0 q1 q2 q3 q4
  cases bb with
  | false =>
    go_wp2
    go_ret
    exact ⟨HBW2.out, Tells.no (fun h => absurd (HBB.out.2 ((shownB_iff r p).1 h).1) (by simp))⟩
  | true =>
    have hfb : fitsB p := HBB.out.1 rfl
    have HFB := hid hfb
    obtain ⟨f1, f2, f3, f4, f5, f6, f7, f8⟩ := hfb
    have HLA := hid (layers_any p _ N w2 (HT.out.past HBW2.out) (by omega) (HPV.out.below (HBW2.out.mono hN)) f1 f2 f3 f4 f5 f6 f7 f8)
    have HLEN := hid (layP_length p f7)
    have HTS := hid (show (topX p.size.toNat (upD (wayP p) p.path.reverse (leafD p.key p.val))).length ≤ 1000000 by
      rw [topX_len, upD_len _ _ _ (by unfold leafD; exact sha_length _)]
      decide)
    clear f1 f2 f3 f4 f5 f6 f7 f8
    go_wp2_with fail
    refine HLA.out.mono ?_
    rintro e w3 ⟨hb3, lv, rfl, ho3⟩
    have hz3 := hb3.size
    obtain ⟨o5, c5, hlv, _⟩ := ho3.shape
    rw [HLEN.out] at hlv
    subst hlv
    obtain ⟨g, y, hg, hy, hown⟩ := ho3.get 0 _ (show (layP p)[0]? = some (topX p.size.toNat (upD (wayP p) p.path.reverse (leafD p.key p.val))) from rfl)
    subst hg
    obtain ⟨o6, c6, rfl, _⟩ := hown.shape
    obtain ⟨x, hx⟩ : ∃ x, topX p.size.toNat (upD (wayP p) p.path.reverse (leafD p.key p.val)) = x := ⟨_, rfl⟩
    rw [hx] at hy hown HTS
    have HX := hid hx
    have HBW3 := hid (HBW2.out.trans (hb3.mono (by omega)))
    have HSM := hid (sumC x _ w3.heap.size w3 (Nat.le_refl _) hown.bytes (HT.out.past HBW3.out) HTS.out)
    have e0 : (0 : Int) < (p.path.length : Int) + 2 := by omega
    clear hb3 ho3 hown HLA hx
    generalize x.length = nx at *
    go_wp2_with fail
    refine HSM.out.mono ?_
    rintro e w4 ⟨o7, c7, rfl, hown7, hb7⟩
    have hz4 := hb7.size
    have HBW4 := hid (HBW3.out.trans (hb7.mono (by omega)))
    have HEQ := hid (equal_any (sha x) r (.slice o7 32 c7) (.slice orr rn cr) w4.heap.size N w4 hown7.bytes (HRT.out.below (HBW4.out.mono hN)))
    clear hown7 hb7 HSM
    go_wp2_with fail
    refine HEQ.out.mono ?_
    rintro e w5 ⟨rfl, hw5⟩
    obtain rfl := hw5.symm
    go_wp2
    go_ret
    refine ⟨HBW4.out, _, rfl, ?_⟩
    rw [decide_eq_true_iff, shownB_iff, HX.out]
    exact ⟨fun h => ⟨HFB.out, h⟩, fun h => h.2⟩
end Go.Proofs.YtclhcjiblfokaaaGreatDoor
namespace Go.Proofs.YtclhcjiblfokaaaGreatDoor
open Go.RowKit

/-- whether what is there stands side by side, or at an end -/
def sideB (g : Gp) : Prop := (g.hasL = true → g.hasR = true → g.right.size = g.left.size ∧ g.left.index + 1 = g.right.index) ∧ (g.hasL = true → g.hasR = false → g.left.index + 1 = g.left.size) ∧ (g.hasL = false → g.hasR = true → g.right.index = 0)
set_option maxRecDepth 100000 in
set_option maxHeartbeats 4000000 in
theorem sideBySide_any (g : Gp) (a1 a2 a3 a4 a5 a6 : Option Addr) (b1 b2 b3 b4 b5 b6 : Nat) (w : World) (hne : g.hasL = true ∨ g.hasR = true) (hl : g.hasL = true → 1 ≤ g.left.size ∧ g.left.size ≤ 200 ∧ 0 ≤ g.left.index ∧ g.left.index < g.left.size) :
    Calls Tryz.prog 180 #[.agg #[.bool g.hasL, .bool g.hasR, .int .i64 g.left.index, .int .i64 g.left.size, .slice a1 g.left.key.length b1, .slice a2 g.left.val.length b2, .slice a3 g.left.path.length b3, .int .i64 g.right.index, .int .i64 g.right.size, .slice a4 g.right.key.length b4, .slice a5 g.right.val.length b5, .slice a6 g.right.path.length b6]] w fun e w' => Below w.heap.size w w' ∧ Tells (sideB g) e := by
  obtain ⟨w1, hw1⟩ : ∃ w1, w.alloc (.cells #[.bool g.hasL, .bool g.hasR, .int .i64 g.left.index, .int .i64 g.left.size, .slice a1 g.left.key.length b1, .slice a2 g.left.val.length b2, .slice a3 g.left.path.length b3, .int .i64 g.right.index, .int .i64 g.right.size, .slice a4 g.right.key.length b4, .slice a5 g.right.val.length b5, .slice a6 g.right.path.length b6] 36) = w1 := ⟨_, rfl⟩
  have hb1 : Below w.heap.size w w1 := by rw [← hw1]; exact (Below.refl _ _).alloc (Nat.le_refl _) _
  have hrow1 : Row w1 w.heap.size 36 [.bool g.hasL, .bool g.hasR, .int .i64 g.left.index, .int .i64 g.left.size, .slice a1 g.left.key.length b1, .slice a2 g.left.val.length b2, .slice a3 g.left.path.length b3, .int .i64 g.right.index, .int .i64 g.right.size, .slice a4 g.right.key.length b4, .slice a5 g.right.val.length b5, .slice a6 g.right.path.length b6] := by rw [← hw1]; exact Row.new _ _ _
  have HB1 := hid hb1
  have q0 := hrow1.cell 0
  have q1 := hrow1.cell 1
  have q2 := hrow1.cell 2
  have q3 := hrow1.cell 3
  have q4 := hrow1.cell 4
  have q5 := hrow1.cell 5
  have q6 := hrow1.cell 6
  have q7 := hrow1.cell 7
  have q8 := hrow1.cell 8
  have q9 := hrow1.cell 9
  have q10 := hrow1.cell 10
  have q11 := hrow1.cell 11
  clear hb1 hrow1
  obtain ⟨L, hL⟩ : ∃ L, g.hasL = L := ⟨_, rfl⟩
  obtain ⟨R, hR⟩ : ∃ R, g.hasR = R := ⟨_, rfl⟩
  have HSB := hid (show sideB g ↔ ((L = true → R = true → g.right.size = g.left.size ∧ g.left.index + 1 = g.right.index) ∧ (L = true → R = false → g.left.index + 1 = g.left.size) ∧ (L = false → R = true → g.right.index = 0)) by rw [← hL, ← hR]; exact Iff.rfl)
  rw [hL, hR] at hne
  rw [hL] at hl
  rw [hL, hR] at hw1
  rw [hL] at q0
  rw [hR] at q1
  rw [hL, hR]
  clear hL hR
  go_enter Tryz.func180, Tryz.ntmps180
  cases R with
  | false =>
    obtain rfl : L = true := by simpa using hne
    have hll := hl rfl
    have HLL := hid hll
    clear hl hne
    go_wp2
    go_ret
    refine ⟨HB1.out, _, rfl, ?_⟩
    have := HLL.out
    rw [HSB.out]
    simp
    omega
  | true =>
    cases L with
    | false =>
      clear hl hne
      go_wp2
      go_ret
      refine ⟨HB1.out, _, rfl, ?_⟩
      rw [HSB.out]
      simp
    | true =>
      have hll := hl rfl
      have HLL := hid hll
      clear hl hne
      by_cases hs : g.left.size = g.right.size
      · have e1 : (g.left.size == g.right.size) = true := by simpa using hs
        have HS := hid hs
        clear hs
        go_wp2
        go_ret
        refine ⟨HB1.out, _, rfl, ?_⟩
        have := HLL.out
        have := HS.out
        rw [HSB.out]
        simp
        omega
      · have e1 : (g.left.size == g.right.size) = false := by simpa using hs
        go_wp2
        go_ret
        refine ⟨HB1.out, Tells.no (fun h => ?_)⟩
        have := (HSB.out.1 h).1 (by trivial) (by trivial)
        omega
set_option maxRecDepth 100000 in
set_option maxHeartbeats 4000000 in
theorem absentC : AbsentC 148 := by
  intro r k g rv kv v N w hT hN hr hk hg hf hrl hkl
  obtain ⟨orr, cr, rfl, _⟩ := hr.shape
  obtain ⟨ok, ck, rfl, _⟩ := hk.shape
  obtain ⟨k1, v1, p1, k2, v2, p2, rfl, hk1, hv1, hp1, hk2, hv2, hp2⟩ := hg
  obtain ⟨a1, b1, rfl, _⟩ := hk1.shape
  obtain ⟨a2, b2, rfl, _⟩ := hv1.shape
  obtain ⟨a3, b3, rfl, _⟩ := hp1.shape
  obtain ⟨a4, b4, rfl, _⟩ := hk2.shape
  obtain ⟨a5, b5, rfl, _⟩ := hv2.shape
  obtain ⟨a6, b6, rfl, _⟩ := hp2.shape
  obtain ⟨L, hL⟩ : ∃ L, g.hasL = L := ⟨_, rfl⟩
  obtain ⟨R, hR⟩ : ∃ R, g.hasR = R := ⟨_, rfl⟩
  have HSB := hid (show (L = true ∨ R = true) → (L = true → 1 ≤ g.left.size ∧ g.left.size ≤ 200 ∧ 0 ≤ g.left.index ∧ g.left.index < g.left.size) → ∀ wx, Calls Tryz.prog 180 #[.agg #[.bool L, .bool R, .int .i64 g.left.index, .int .i64 g.left.size, .slice a1 g.left.key.length b1, .slice a2 g.left.val.length b2, .slice a3 g.left.path.length b3, .int .i64 g.right.index, .int .i64 g.right.size, .slice a4 g.right.key.length b4, .slice a5 g.right.val.length b5, .slice a6 g.right.path.length b6]] wx fun e w' => Below wx.heap.size wx w' ∧ Tells (sideB g) e from fun h1 h2 wx => by
    have := sideBySide_any g a1 a2 a3 a4 a5 a6 b1 b2 b3 b4 b5 b6 wx (by rw [hL, hR]; exact h1) (by rw [hL]; exact h2)
    rw [hL, hR] at this
    exact this)
  have HAB := hid (show absentB r k g ↔ if L = false ∧ R = false then r = topD 0 [] else (L = true → shownB r g.left ∧ lessB g.left.key k = true) ∧ (R = true → shownB r g.right ∧ lessB k g.right.key = true) ∧ sideB g by
    unfold absentB sideB
    rw [hL, hR])
  rw [hL, hR]
  obtain ⟨w1, hw1⟩ : ∃ w1, w.alloc (.cells #[.bool L, .bool R, .int .i64 g.left.index, .int .i64 g.left.size, .slice a1 g.left.key.length b1, .slice a2 g.left.val.length b2, .slice a3 g.left.path.length b3, .int .i64 g.right.index, .int .i64 g.right.size, .slice a4 g.right.key.length b4, .slice a5 g.right.val.length b5, .slice a6 g.right.path.length b6] 36) = w1 := ⟨_, rfl⟩
  have hsz1 : w1.heap.size = w.heap.size + 1 := by rw [← hw1]; simp
  have hb1 : Below w.heap.size w w1 := by rw [← hw1]; exact (Below.refl _ _).alloc (Nat.le_refl _) _
  have hrow1 : Row w1 w.heap.size 36 [.bool L, .bool R, .int .i64 g.left.index, .int .i64 g.left.size, .slice a1 g.left.key.length b1, .slice a2 g.left.val.length b2, .slice a3 g.left.path.length b3, .int .i64 g.right.index, .int .i64 g.right.size, .slice a4 g.right.key.length b4, .slice a5 g.right.val.length b5, .slice a6 g.right.path.length b6] := by rw [← hw1]; exact Row.new _ _ _
  have HB1 := hid hb1
  have HBX := hid (show ∀ wx, Below w1.heap.size w1 wx → Below w.heap.size w wx from fun wx hx => hb1.trans (hx.mono (by omega)))
  have HRX := hid (show ∀ wx, Below w1.heap.size w1 wx → Row wx w.heap.size 36 [.bool L, .bool R, .int .i64 g.left.index, .int .i64 g.left.size, .slice a1 g.left.key.length b1, .slice a2 g.left.val.length b2, .slice a3 g.left.path.length b3, .int .i64 g.right.index, .int .i64 g.right.size, .slice a4 g.right.key.length b4, .slice a5 g.right.val.length b5, .slice a6 g.right.path.length b6] from fun wx hx => hrow1.below hx (by omega))
  have HSL := hid (show ∀ wx, Below w1.heap.size w1 wx → Calls Tryz.prog 98 #[.slice orr r.length cr, .agg #[.int .i64 g.left.index, .int .i64 g.left.size, .slice a1 g.left.key.length b1, .slice a2 g.left.val.length b2, .slice a3 g.left.path.length b3]] wx fun e w' => Below wx.heap.size wx w' ∧ Tells (shownB r g.left) e from fun wx hx =>
    have hb := HBX.out wx hx
    shownC r g.left _ _ N wx (hT.past hb) (Nat.le_trans hN hb.size) (hr.below (hb.mono hN)) ⟨_, _, _, rfl, hk1.below (hb.mono hN), hv1.below (hb.mono hN), hp1.below (hb.mono hN)⟩ hf.1 hrl)
  have HSR := hid (show ∀ wx, Below w1.heap.size w1 wx → Calls Tryz.prog 98 #[.slice orr r.length cr, .agg #[.int .i64 g.right.index, .int .i64 g.right.size, .slice a4 g.right.key.length b4, .slice a5 g.right.val.length b5, .slice a6 g.right.path.length b6]] wx fun e w' => Below wx.heap.size wx w' ∧ Tells (shownB r g.right) e from fun wx hx =>
    have hb := HBX.out wx hx
    shownC r g.right _ _ N wx (hT.past hb) (Nat.le_trans hN hb.size) (hr.below (hb.mono hN)) ⟨_, _, _, rfl, hk2.below (hb.mono hN), hv2.below (hb.mono hN), hp2.below (hb.mono hN)⟩ hf.2 hrl)
  have HCL := hid (show ∀ wx, Below w1.heap.size w1 wx → Calls Tryz.prog 179 #[.slice a1 g.left.key.length b1, .slice ok k.length ck] wx fun e w' => e = .returned (.int .i64 (cmpB g.left.key k)) ∧ w' = wx from fun wx hx =>
    have hb := HBX.out wx hx
    compare_any _ _ _ _ N N wx (hk1.below (hb.mono hN)) (hk.below (hb.mono hN)))
  have HCR := hid (show ∀ wx, Below w1.heap.size w1 wx → Calls Tryz.prog 179 #[.slice ok k.length ck, .slice a4 g.right.key.length b4] wx fun e w' => e = .returned (.int .i64 (cmpB k g.right.key)) ∧ w' = wx from fun wx hx =>
    have hb := HBX.out wx hx
    compare_any _ _ _ _ N N wx (hk.below (hb.mono hN)) (hk2.below (hb.mono hN)))
  have HRT := hid hr
  have HT := hid hT
  have q0 := hrow1.cell 0
  have q1 := hrow1.cell 1
  have q2 := hrow1.cell 2
  have q3 := hrow1.cell 3
  have q4 := hrow1.cell 4
  have q5 := hrow1.cell 5
  have q6 := hrow1.cell 6
  have q7 := hrow1.cell 7
  have q8 := hrow1.cell 8
  have q9 := hrow1.cell 9
  have q10 := hrow1.cell 10
  have q11 := hrow1.cell 11
  clear hk1 hv1 hp1 hk2 hv2 hp2 hL hR hb1 hrow1 hT hr hk hf
  go_enter Tryz.func148, Tryz.ntmps148
  have HB11 := hid (Below.refl w1.heap.size w1)
  cases L with
  | false =>
    cases R with
    | false =>
      have HBK := hid (bookBytes_any 0 [] (.slice none 0 0) w1.heap.size w1 (Nat.le_refl _) (.inl ⟨rfl, rfl⟩) (by decide) (by decide))
      go_wp2_with fail
      refine HBK.out.mono ?_
      rintro e w2 ⟨o2, n2, c2, rfl, hown2, hb2⟩
      have hz2 := hb2.size
      have HB2 := hid hb2
      have HSM := hid (sumC _ (.slice o2 n2 c2) w2.heap.size w2 (Nat.le_refl _) hown2.bytes (HT.out.past (HBX.out w2 hb2)) (by decide))
      clear hown2 hb2
      go_wp2_with fail
      refine HSM.out.mono ?_
      rintro e w3 ⟨o3, c3, rfl, hown3, hb3⟩
      have HB3 := hid (HB2.out.trans (hb3.mono hz2))
      have HEQ := hid (equal_any _ r (.slice o3 32 c3) (.slice orr r.length cr) w3.heap.size N w3 hown3.bytes (HRT.out.below ((HBX.out w3 HB3.out).mono hN)))
      clear hown3 hb3
      go_wp2_with fail
      refine HEQ.out.mono ?_
      rintro e w4 ⟨rfl, hw4⟩
      obtain rfl := hw4.symm
      go_wp2
      go_ret
      refine ⟨HBX.out _ HB3.out, _, rfl, ?_⟩
      rw [decide_eq_true_iff, HAB.out, if_pos (by simp)]
      exact ⟨fun h => h.symm, fun h => h.symm⟩
    | true =>
      go_wp2_with fail
      refine (HSR.out w1 HB11.out).mono ?_
      rintro e w3 ⟨hbw3, bb, rfl, hbb⟩
      have HTw3 := hid hbb
      have HB3 := hid (HB11.out.trans (hbw3.mono HB11.out.size))
      clear hbw3 hbb q0 q1 q2 q3 q4 q5 q6 q7 q8 q9 q10 q11
      have q0 := (HRX.out w3 HB3.out).cell 0
      have q1 := (HRX.out w3 HB3.out).cell 1
      have q2 := (HRX.out w3 HB3.out).cell 2
      have q3 := (HRX.out w3 HB3.out).cell 3
      have q4 := (HRX.out w3 HB3.out).cell 4
      have q5 := (HRX.out w3 HB3.out).cell 5
      have q6 := (HRX.out w3 HB3.out).cell 6
      have q7 := (HRX.out w3 HB3.out).cell 7
      have q8 := (HRX.out w3 HB3.out).cell 8
      have q9 := (HRX.out w3 HB3.out).cell 9
      have q10 := (HRX.out w3 HB3.out).cell 10
      have q11 := (HRX.out w3 HB3.out).cell 11
      cases bb with
      | false =>
        go_wp2
        go_ret
        refine ⟨HBX.out w3 HB3.out, Tells.no (fun h => ?_)⟩
        have h := HAB.out.1 h
        rw [if_neg (by simp)] at h
        exact absurd (HTw3.out.2 (h.2.1 (by trivial)).1) (by simp)
      | true =>
        have HSRR := hid (HTw3.out.1 rfl)
        by_cases hcR : cmpB k g.right.key < 0
        · have ecR : decide (cmpB k g.right.key < 0) = true := by simpa using hcR
          have HCRR := hid ((cmpB_neg _ _).1 hcR)
          go_wp2_with fail
          refine (HCR.out w3 HB3.out).mono ?_
          rintro e wz ⟨rfl, hwz⟩
          obtain rfl := hwz.symm
          clear hcR
          go_wp2_with fail
          refine (HSB.out (by simp) (fun h => absurd h (by simp)) w3).mono ?_
          rintro e we ⟨hbe, be, rfl, hbe2⟩
          have HE := hid hbe2
          have HBE := hid (HB3.out.trans (hbe.mono HB3.out.size))
          clear hbe hbe2
          go_wp2
          go_ret
          refine ⟨HBX.out we HBE.out, be, rfl, HE.out.trans ?_⟩
          rw [HAB.out, if_neg (by simp)]
          exact ⟨fun h => ⟨fun h => absurd h (by simp), fun _ => ⟨HSRR.out, HCRR.out⟩, h⟩, fun h => h.2.2⟩
        · have ecR : decide (cmpB k g.right.key < 0) = false := by simpa using hcR
          go_wp2_with fail
          refine (HCR.out w3 HB3.out).mono ?_
          rintro e wz ⟨rfl, hwz⟩
          obtain rfl := hwz.symm
          go_wp2
          go_ret
          refine ⟨HBX.out w3 HB3.out, Tells.no (fun h => ?_)⟩
          have h := HAB.out.1 h
          rw [if_neg (by simp)] at h
          exact absurd ((cmpB_neg _ _).2 (h.2.1 (by trivial)).2) (by omega)
  | true =>
    cases R with
    | false =>
      go_wp2_with fail
      refine (HSL.out w1 HB11.out).mono ?_
      rintro e w2 ⟨hbw2, bb, rfl, hbb⟩
      have HTw2 := hid hbb
      have HB2 := hid (HB11.out.trans (hbw2.mono HB11.out.size))
      clear hbw2 hbb q0 q1 q2 q3 q4 q5 q6 q7 q8 q9 q10 q11
      have q0 := (HRX.out w2 HB2.out).cell 0
      have q1 := (HRX.out w2 HB2.out).cell 1
      have q2 := (HRX.out w2 HB2.out).cell 2
      have q3 := (HRX.out w2 HB2.out).cell 3
      have q4 := (HRX.out w2 HB2.out).cell 4
      have q5 := (HRX.out w2 HB2.out).cell 5
      have q6 := (HRX.out w2 HB2.out).cell 6
      have q7 := (HRX.out w2 HB2.out).cell 7
      have q8 := (HRX.out w2 HB2.out).cell 8
      have q9 := (HRX.out w2 HB2.out).cell 9
      have q10 := (HRX.out w2 HB2.out).cell 10
      have q11 := (HRX.out w2 HB2.out).cell 11
      cases bb with
      | false =>
        go_wp2
        go_ret
        refine ⟨HBX.out w2 HB2.out, Tells.no (fun h => ?_)⟩
        have h := HAB.out.1 h
        rw [if_neg (by simp)] at h
        exact absurd (HTw2.out.2 (h.1 (by trivial)).1) (by simp)
      | true =>
        have HSLL := hid (HTw2.out.1 rfl)
        by_cases hcL : cmpB g.left.key k < 0
        · have ecL : decide (cmpB g.left.key k < 0) = true := by simpa using hcL
          have HCLL := hid ((cmpB_neg _ _).1 hcL)
          go_wp2_with fail
          refine (HCL.out w2 HB2.out).mono ?_
          rintro e wz ⟨rfl, hwz⟩
          obtain rfl := hwz.symm
          clear hcL
          go_wp2_with fail
          refine (HSB.out (by simp) (fun _ => ⟨HSLL.out.1, HSLL.out.2.1, HSLL.out.2.2.1, HSLL.out.2.2.2.1⟩) w2).mono ?_
          rintro e we ⟨hbe, be, rfl, hbe2⟩
          have HE := hid hbe2
          have HBE := hid (HB2.out.trans (hbe.mono HB2.out.size))
          clear hbe hbe2
          go_wp2
          go_ret
          refine ⟨HBX.out we HBE.out, be, rfl, HE.out.trans ?_⟩
          rw [HAB.out, if_neg (by simp)]
          exact ⟨fun h => ⟨fun _ => ⟨HSLL.out, HCLL.out⟩, fun h => absurd h (by simp), h⟩, fun h => h.2.2⟩
        · have ecL : decide (cmpB g.left.key k < 0) = false := by simpa using hcL
          go_wp2_with fail
          refine (HCL.out w2 HB2.out).mono ?_
          rintro e wz ⟨rfl, hwz⟩
          obtain rfl := hwz.symm
          go_wp2
          go_ret
          refine ⟨HBX.out w2 HB2.out, Tells.no (fun h => ?_)⟩
          have h := HAB.out.1 h
          rw [if_neg (by simp)] at h
          exact absurd ((cmpB_neg _ _).2 (h.1 (by trivial)).2) (by omega)
    | true =>
      go_wp2_with fail
      refine (HSL.out w1 HB11.out).mono ?_
      rintro e w2 ⟨hbw2, bb, rfl, hbb⟩
      have HTw2 := hid hbb
      have HB2 := hid (HB11.out.trans (hbw2.mono HB11.out.size))
      clear hbw2 hbb q0 q1 q2 q3 q4 q5 q6 q7 q8 q9 q10 q11
      have q0 := (HRX.out w2 HB2.out).cell 0
      have q1 := (HRX.out w2 HB2.out).cell 1
      have q2 := (HRX.out w2 HB2.out).cell 2
      have q3 := (HRX.out w2 HB2.out).cell 3
      have q4 := (HRX.out w2 HB2.out).cell 4
      have q5 := (HRX.out w2 HB2.out).cell 5
      have q6 := (HRX.out w2 HB2.out).cell 6
      have q7 := (HRX.out w2 HB2.out).cell 7
      have q8 := (HRX.out w2 HB2.out).cell 8
      have q9 := (HRX.out w2 HB2.out).cell 9
      have q10 := (HRX.out w2 HB2.out).cell 10
      have q11 := (HRX.out w2 HB2.out).cell 11
      cases bb with
      | false =>
        go_wp2
        go_ret
        refine ⟨HBX.out w2 HB2.out, Tells.no (fun h => ?_)⟩
        have h := HAB.out.1 h
        rw [if_neg (by simp)] at h
        exact absurd (HTw2.out.2 (h.1 (by trivial)).1) (by simp)
      | true =>
        have HSLL := hid (HTw2.out.1 rfl)
        by_cases hcL : cmpB g.left.key k < 0
        · have ecL : decide (cmpB g.left.key k < 0) = true := by simpa using hcL
          have HCLL := hid ((cmpB_neg _ _).1 hcL)
          go_wp2_with fail
          refine (HCL.out w2 HB2.out).mono ?_
          rintro e wz ⟨rfl, hwz⟩
          obtain rfl := hwz.symm
          clear hcL
          go_wp2_with fail
          refine (HSR.out w2 HB2.out).mono ?_
          rintro e w3 ⟨hbw3, bb, rfl, hbb⟩
          have HTw3 := hid hbb
          have HB3 := hid (HB2.out.trans (hbw3.mono HB2.out.size))
          clear hbw3 hbb q0 q1 q2 q3 q4 q5 q6 q7 q8 q9 q10 q11
          have q0 := (HRX.out w3 HB3.out).cell 0
          have q1 := (HRX.out w3 HB3.out).cell 1
          have q2 := (HRX.out w3 HB3.out).cell 2
          have q3 := (HRX.out w3 HB3.out).cell 3
          have q4 := (HRX.out w3 HB3.out).cell 4
          have q5 := (HRX.out w3 HB3.out).cell 5
          have q6 := (HRX.out w3 HB3.out).cell 6
          have q7 := (HRX.out w3 HB3.out).cell 7
          have q8 := (HRX.out w3 HB3.out).cell 8
          have q9 := (HRX.out w3 HB3.out).cell 9
          have q10 := (HRX.out w3 HB3.out).cell 10
          have q11 := (HRX.out w3 HB3.out).cell 11
          cases bb with
          | false =>
            go_wp2
            go_ret
            refine ⟨HBX.out w3 HB3.out, Tells.no (fun h => ?_)⟩
            have h := HAB.out.1 h
            rw [if_neg (by simp)] at h
            exact absurd (HTw3.out.2 (h.2.1 (by trivial)).1) (by simp)
          | true =>
            have HSRR := hid (HTw3.out.1 rfl)
            by_cases hcR : cmpB k g.right.key < 0
            · have ecR : decide (cmpB k g.right.key < 0) = true := by simpa using hcR
              have HCRR := hid ((cmpB_neg _ _).1 hcR)
              go_wp2_with fail
              refine (HCR.out w3 HB3.out).mono ?_
              rintro e wz ⟨rfl, hwz⟩
              obtain rfl := hwz.symm
              clear hcR
              go_wp2_with fail
              refine (HSB.out (by simp) (fun _ => ⟨HSLL.out.1, HSLL.out.2.1, HSLL.out.2.2.1, HSLL.out.2.2.2.1⟩) w3).mono ?_
              rintro e we ⟨hbe, be, rfl, hbe2⟩
              have HE := hid hbe2
              have HBE := hid (HB3.out.trans (hbe.mono HB3.out.size))
              clear hbe hbe2
              go_wp2
              go_ret
              refine ⟨HBX.out we HBE.out, be, rfl, HE.out.trans ?_⟩
              rw [HAB.out, if_neg (by simp)]
              exact ⟨fun h => ⟨fun _ => ⟨HSLL.out, HCLL.out⟩, fun _ => ⟨HSRR.out, HCRR.out⟩, h⟩, fun h => h.2.2⟩
            · have ecR : decide (cmpB k g.right.key < 0) = false := by simpa using hcR
              go_wp2_with fail
              refine (HCR.out w3 HB3.out).mono ?_
              rintro e wz ⟨rfl, hwz⟩
              obtain rfl := hwz.symm
              go_wp2
              go_ret
              refine ⟨HBX.out w3 HB3.out, Tells.no (fun h => ?_)⟩
              have h := HAB.out.1 h
              rw [if_neg (by simp)] at h
              exact absurd ((cmpB_neg _ _).2 (h.2.1 (by trivial)).2) (by omega)
        · have ecL : decide (cmpB g.left.key k < 0) = false := by simpa using hcL
          go_wp2_with fail
          refine (HCL.out w2 HB2.out).mono ?_
          rintro e wz ⟨rfl, hwz⟩
          obtain rfl := hwz.symm
          go_wp2
          go_ret
          refine ⟨HBX.out w2 HB2.out, Tells.no (fun h => ?_)⟩
          have h := HAB.out.1 h
          rw [if_neg (by simp)] at h
          exact absurd ((cmpB_neg _ _).2 (h.1 (by trivial)).2) (by omega)
end Go.Proofs.YtclhcjiblfokaaaGreatDoor
namespace Go.Proofs.YtclhcjiblfokaaaGreatDoor
open Go.RowKit

/-- why something is not shown -/
def ShownN (c : Cl) (now height : Int) (P : List (BitVec 8) → Prop) (z : Int) : Prop :=
  (askedN c now ≠ 0 ∧ z = askedN c now) ∨ (askedN c now = 0 ∧ atK c.known height = none ∧ z = 6) ∨ (askedN c now = 0 ∧ ∃ k, atK c.known height = some k ∧ ((activeB c now = false ∧ z = 11) ∨ (activeB c now = true ∧ ((P k.root ∧ z = 0) ∨ (¬ P k.root ∧ z = 9)))))
theorem ShownN.eq {c : Cl} {now height : Int} {P : List (BitVec 8) → Prop} {z y : Int} (h : ShownN c now height P z) (g : ShownN c now height P y) : z = y := by
  rcases h with ⟨h1, rfl⟩ | ⟨h1, h2, rfl⟩ | ⟨h1, k, h2, h3⟩
  · rcases g with ⟨_, rfl⟩ | ⟨g1, _⟩ | ⟨g1, _⟩
    · rfl
    · exact absurd g1 h1
    · exact absurd g1 h1
  · rcases g with ⟨g1, _⟩ | ⟨_, _, rfl⟩ | ⟨_, k, g2, _⟩
    · exact absurd h1 g1
    · rfl
    · rw [h2] at g2; cases g2
  · rcases g with ⟨g1, _⟩ | ⟨_, g2, _⟩ | ⟨_, k', g2, g3⟩
    · exact absurd h1 g1
    · rw [h2] at g2; cases g2
    · rw [h2] at g2
      obtain rfl : k = k' := by simpa using g2
      rcases h3 with ⟨a1, rfl⟩ | ⟨a1, a2⟩
      · rcases g3 with ⟨_, rfl⟩ | ⟨b1, _⟩
        · rfl
        · rw [a1] at b1; cases b1
      · rcases g3 with ⟨b1, _⟩ | ⟨_, b2⟩
        · rw [a1] at b1; cases b1
        · rcases a2 with ⟨a3, rfl⟩ | ⟨a3, rfl⟩
          · rcases b2 with ⟨_, rfl⟩ | ⟨b3, _⟩
            · rfl
            · exact absurd a3 b3
          · rcases b2 with ⟨b3, _⟩ | ⟨_, rfl⟩
            · exact absurd b3 a3
            · rfl
theorem ShownN.frozen {c : Cl} {now height : Int} {P : List (BitVec 8) → Prop} {z : Int} (h : ShownN c now height P z) (ha : askedN c now = 12) : z = 12 := by
  rcases h with ⟨_, rfl⟩ | ⟨h1, _⟩ | ⟨h1, _⟩
  · exact ha
  · omega
  · omega
theorem Row.five {w : World} {g : Nat} {t : TypeId} {a b c d e : Value} (h : Row w g t [a, b, c, d, e]) : w.cell? ⟨g, 0, none⟩ = some a ∧ w.cell? ⟨g, 1, none⟩ = some b ∧ w.cell? ⟨g, 2, none⟩ = some c ∧ w.cell? ⟨g, 3, none⟩ = some d ∧ w.cell? ⟨g, 4, none⟩ = some e :=
  ⟨h.cell 0, h.cell 1, h.cell 2, h.cell 3, h.cell 4⟩
set_option maxRecDepth 100000 in
set_option maxHeartbeats 4000000 in
theorem member1_any (p : Prf) (key val root : List (BitVec 8)) (gp gk gv : Nat) (pv kv vv rv : Value) (N : Nat) (w : World) (htab : tableAt w) (hN : N ≤ w.heap.size) (hp : PrfV w N pv p) (hk : Bytes w N kv key) (hv : Bytes w N vv val) (hr : Bytes w w.heap.size rv root) (hf : p.fits) (hrl : root.length ≤ 140737488351232)
    (hrp : ∃ cs, pv = .agg cs ∧ Row w gp 34 cs.toList) (hrk : Row w gk 29 [kv]) (hrv : Row w gv 29 [vv]) :
    Calls Tryz.prog 96 #[rv, .pointer (some ⟨gp, 0, none⟩), .pointer (some ⟨gk, 0, none⟩), .pointer (some ⟨gv, 0, none⟩)] w fun e w' => Below w.heap.size w w' ∧ Tells (p.key = key ∧ p.val = val ∧ shownB root p) e := by
  have HS := hid (shownC root p rv pv w.heap.size w htab (Nat.le_refl _) hr (hp.mono hN) hf hrl)
  obtain ⟨x1, x2, x3, rfl, h1, h2, h3⟩ := hp
  have HE1 := hid (equal_any p.key key x1 kv N N w h1 hk)
  have HE2 := hid (equal_any p.val val x2 vv N N w h2 hv)
  obtain ⟨q1, y1, rfl, _⟩ := h1.shape
  obtain ⟨q2, y2, rfl, _⟩ := h2.shape
  obtain ⟨q3, y3, rfl, _⟩ := h3.shape
  obtain ⟨o1, c1, rfl, _⟩ := hk.shape
  obtain ⟨o2, c2, rfl, _⟩ := hv.shape
  obtain ⟨o3, c3, rfl, _⟩ := hr.shape
  obtain ⟨cs, hcs, hrow⟩ := hrp
  obtain rfl : cs = #[.int .i64 p.index, .int .i64 p.size, .slice q1 p.key.length y1, .slice q2 p.val.length y2, .slice q3 p.path.length y3] := by simpa using hcs.symm
  obtain ⟨i0, i1, i2, i3, i4⟩ := Row.five hrow
  have k0 := hrk.cell 0
  have k1 := hrv.cell 0
  simp only [List.getElem?_cons_zero] at k0 k1
  clear h1 h2 h3 hk hv hr hcs hrow hrk hrv htab
  by_cases e1 : p.key = key
  · rw [decide_eq_true e1] at HE1
    have HQ1 := hid e1
    clear e1
    by_cases e2 : p.val = val
    · rw [decide_eq_true e2] at HE2
      have HQ2 := hid e2
      clear e2
      generalize p.key.length = n1 at *
      generalize p.val.length = n2 at *
      generalize p.path.length = n3 at *
      generalize key.length = n4 at *
      generalize val.length = n5 at *
      generalize hn6 : root.length = n6 at *
      clear hn6
      go_enter Tryz.func96, Tryz.ntmps96
      go_wp2_with fail
      refine HE1.out.mono ?_
      rintro e w2 ⟨rfl, hw2⟩
      obtain rfl := hw2.symm
      go_wp2_with fail
      refine HE2.out.mono ?_
      rintro e w2 ⟨rfl, hw2⟩
      obtain rfl := hw2.symm
      go_wp2_with fail
      refine HS.out.mono ?_
      rintro e w3 ⟨hb3, bb, rfl, hbb⟩
      have HB3 := hid hb3
      have HBB := hid hbb
      clear hb3 hbb
      go_wp2
      go_ret
      exact ⟨HB3.out, bb, rfl, fun h => ⟨HQ1.out, HQ2.out, HBB.out.1 h⟩, fun h => HBB.out.2 h.2.2⟩
    · rw [decide_eq_false e2] at HE2
      have HQ2 := hid e2
      clear e2
      generalize p.key.length = n1 at *
      generalize p.val.length = n2 at *
      generalize key.length = n4 at *
      generalize val.length = n5 at *
      go_enter Tryz.func96, Tryz.ntmps96
      go_wp2_with fail
      refine HE1.out.mono ?_
      rintro e w2 ⟨rfl, hw2⟩
      obtain rfl := hw2.symm
      go_wp2_with fail
      refine HE2.out.mono ?_
      rintro e w2 ⟨rfl, hw2⟩
      obtain rfl := hw2.symm
      go_wp2
      go_ret
      exact ⟨Below.refl _ _, Tells.no (fun h => HQ2.out h.2.1)⟩
  · rw [decide_eq_false e1] at HE1
    have HQ1 := hid e1
    clear e1
    generalize p.key.length = n1 at *
    generalize key.length = n4 at *
    go_enter Tryz.func96, Tryz.ntmps96
    go_wp2_with fail
    refine HE1.out.mono ?_
    rintro e w2 ⟨rfl, hw2⟩
    obtain rfl := hw2.symm
    go_wp2
    go_ret
    exact ⟨Below.refl _ _, Tells.no (fun h => HQ1.out h.1)⟩
set_option maxRecDepth 100000 in
set_option maxHeartbeats 4000000 in
theorem missing1_any (g : Gp) (key root : List (BitVec 8)) (gk gg : Nat) (gv kv rv : Value) (N : Nat) (w : World) (htab : tableAt w) (hN : N ≤ w.heap.size) (hg : GpV w N gv g) (hk : Bytes w N kv key) (hr : Bytes w w.heap.size rv root) (hf : g.fits) (hkl : key.length ≤ 140737488351232) (hrl : root.length ≤ 140737488351232)
    (hrg : ∃ cs, gv = .agg cs ∧ Row w gg 36 cs.toList) (hrk : Row w gk 29 [kv]) :
    Calls Tryz.prog 147 #[rv, .pointer (some ⟨gk, 0, none⟩), .pointer (some ⟨gg, 0, none⟩)] w fun e w' => Below w.heap.size w w' ∧ Tells (absentB root key g) e := by
  have HS := hid (absentC root key g rv kv gv w.heap.size w htab (Nat.le_refl _) hr (hk.mono hN) (hg.mono hN) hf hrl hkl)
  obtain ⟨k1, v1, t1, k2, v2, t2, rfl, h1, h2, h3, h4, h5, h6⟩ := hg
  obtain ⟨q1, y1, rfl, _⟩ := h1.shape
  obtain ⟨q2, y2, rfl, _⟩ := h2.shape
  obtain ⟨q3, y3, rfl, _⟩ := h3.shape
  obtain ⟨q4, y4, rfl, _⟩ := h4.shape
  obtain ⟨q5, y5, rfl, _⟩ := h5.shape
  obtain ⟨q6, y6, rfl, _⟩ := h6.shape
  obtain ⟨o1, c1, rfl, _⟩ := hk.shape
  obtain ⟨o3, c3, rfl, _⟩ := hr.shape
  obtain ⟨cs, hcs, hrow⟩ := hrg
  obtain rfl := (Value.agg.inj hcs).symm
  have i0 := hrow.cell 0
  have i1 := hrow.cell 1
  have i2 := hrow.cell 2
  have i3 := hrow.cell 3
  have i4 := hrow.cell 4
  have i5 := hrow.cell 5
  have i6 := hrow.cell 6
  have i7 := hrow.cell 7
  have i8 := hrow.cell 8
  have i9 := hrow.cell 9
  have i10 := hrow.cell 10
  have i11 := hrow.cell 11
  have j0 := hrk.cell 0
  simp only [List.getElem?_cons_zero, List.getElem?_cons_succ] at i0 i1 i2 i3 i4 i5 i6 i7 i8 i9 i10 i11 j0
  clear h1 h2 h3 h4 h5 h6 hk hr hcs hrow hrk htab
  go_enter Tryz.func147, Tryz.ntmps147
  go_wp2_with fail
  refine HS.out.mono ?_
  rintro e w3 ⟨hb3, bb, rfl, hbb⟩
  have HB3 := hid hb3
  have HBB := hid hbb
  clear hb3 hbb
  go_wp2
  go_ret
  exact ⟨HB3.out, bb, rfl, HBB.out⟩
set_option maxRecDepth 100000 in
set_option maxHeartbeats 4000000 in
theorem shownM_any (P : List (BitVec 8) → Prop) (c : Cl) (now height : Int) (gp gk gv : Nat) (cv : Value) (N : Nat) (w : World) (hN : N ≤ w.heap.size) (hcv : ClV w N cv c) (hcf : c.fits)
    (hh : ∀ (wx : World) (root : List (BitVec 8)) (rv : Value), Below w.heap.size w wx → Bytes wx wx.heap.size rv root → root.length ≤ 140737488351232 → Calls Tryz.prog 96 #[rv, .pointer (some ⟨gp, 0, none⟩), .pointer (some ⟨gk, 0, none⟩), .pointer (some ⟨gv, 0, none⟩)] wx fun e w' => Below wx.heap.size wx w' ∧ Tells (P root) e) :
    Calls Tryz.prog 95 #[cv, .int .i64 now, .int .i64 height, .func (.func 96) #[] #[.pointer (some ⟨gp, 0, none⟩), .pointer (some ⟨gk, 0, none⟩), .pointer (some ⟨gv, 0, none⟩)]] w fun e w' => Below w.heap.size w w' ∧ ∃ z, e = .returned (.int .i64 z) ∧ ShownN c now height P z := by
  have HAS := hid (show ∀ wx, Below w.heap.size w wx → _ from fun wx hx => askedC c now cv N wx (hcv.below (hx.mono hN)) (Nat.le_trans hN hx.size) hcf)
  have HFI := hid (show ∀ wx, Below w.heap.size w wx → _ from fun wx hx => findC c height cv N wx (hcv.below (hx.mono hN)) (Nat.le_trans hN hx.size) hcf)
  have HCV := hid hcv
  have HHH := hid hh
  have HCF := hid hcf
  obtain ⟨kv, rfl, hk⟩ := hcv
  obtain ⟨oa, ca, rfl, hca⟩ := hk.shape
  obtain ⟨w0, hw0⟩ : ∃ w0, w.alloc (.cells #[.string c.chain, .int .i64 c.trust, .bool c.frozen, .slice oa c.known.length ca] 79) = w0 := ⟨_, rfl⟩
  have HB0 := hid (show Below w.heap.size w w0 by rw [← hw0]; exact (Below.refl _ _).alloc (Nat.le_refl _) _)
  have HR0 := hid (show Row w0 w.heap.size 79 [.string c.chain, .int .i64 c.trust, .bool c.frozen, .slice oa c.known.length ca] by rw [← hw0]; exact Row.new _ _ _)
  have HW0 := hid hw0
  obtain ⟨⟨a0, a1, a2, a3⟩, _⟩ := HR0.out.four
  clear hw0 hk hh hcf hca
  go_enter Tryz.func95, Tryz.ntmps95
  go_wp2_with fail
  rw [HW0.out]
  refine (HAS.out _ HB0.out).mono ?_
  rintro e w1 ⟨rfl, hb1⟩
  have HB1 := hid (HB0.out.trans (hb1.mono HB0.out.size))
  have HR1 := hid (HR0.out.below hb1 HR0.out.lt)
  clear hb1 a0 a1 a2 a3
  obtain ⟨⟨a0, a1, a2, a3⟩, _⟩ := HR1.out.four
  by_cases hask : askedN c now = 0
  · rw [hask]
    have HASK := hid hask
    have HAC := hid (show ∀ wx, Below w.heap.size w wx → Calls Tryz.prog 139 #[.agg #[.string c.chain, .int .i64 c.trust, .bool c.frozen, .slice oa c.known.length ca], .int .i64 now] wx _ from fun wx hx => activeC c now _ N wx (HCV.out.below (hx.mono hN)) (Nat.le_trans hN hx.size) (askedN_ok HASK.out).1 (askedN_ok HASK.out).2.1)
    clear hask
    go_wp2_with fail
    refine (HFI.out _ HB1.out).mono ?_
    rintro e w2 ⟨hb2, p1, d1, p2, d2, rfl, hx1, hx2⟩
    have HB2 := hid (HB1.out.trans (hb2.mono HB1.out.size))
    have HR2 := hid (HR1.out.below hb2 HR1.out.lt)
    clear hb2 a0 a1 a2 a3
    obtain ⟨⟨a0, a1, a2, a3⟩, _⟩ := HR2.out.four
    have m1 : w.heap.size < w2.heap.size := HR2.out.lt
    have m2 : w.heap.size ≠ w2.heap.size := by omega
    cases hat : atK c.known height with
    | none =>
      have HAT := hid hat
      clear hat hx1 hx2
      simp only [Option.isSome]
      generalize knAt c.known height = k at *
      go_wp2
      go_ret
      exact ⟨HB2.out.alloc HB2.out.size _, _, rfl, .inr (.inl ⟨HASK.out, HAT.out, rfl⟩)⟩
    | some k =>
      have HAT := hid hat
      rw [knAt_some hat] at hx1
      rw [knAt_some hat]
      simp only [Option.isSome]
      obtain ⟨w3, hw3⟩ : ∃ w3, w2.alloc (.cells #[.int .i64 k.height, .int .i64 k.time, .slice p1 k.root.length d1, .slice p2 k.next.length d2] 93) = w3 := ⟨_, rfl⟩
      have hb3 : Below w2.heap.size w2 w3 := by rw [← hw3]; exact (Below.refl _ _).alloc (Nat.le_refl _) _
      have HB3 := hid (HB2.out.trans (hb3.mono HB2.out.size))
      have HRK3 := hid (show Row w3 w2.heap.size 93 [.int .i64 k.height, .int .i64 k.time, .slice p1 k.root.length d1, .slice p2 k.next.length d2] by rw [← hw3]; exact Row.new _ _ _)
      have HX1 := hid ((hx1.below hb3).mono hb3.size)
      have HKF := hid (HCF.out.2.2 k (atK_some hat).1)
      have HW3 := hid hw3
      clear hat hx1 hx2 hb3 hw3
      go_wp2_with fail
      rw [HW3.out]
      refine (HAC.out _ HB3.out).mono ?_
      rintro e w4 ⟨rfl, hb4⟩
      have HB4 := hid (HB3.out.trans (hb4.mono HB3.out.size))
      have HRK4 := hid (HRK3.out.below hb4 HRK3.out.lt)
      have HX4 := hid ((HX1.out.below hb4).mono hb4.size)
      clear hb4 a0 a1 a2 a3 m1 m2
      obtain ⟨⟨a0, a1, a2, a3⟩, _⟩ := HRK4.out.four
      cases hac : activeB c now with
      | false =>
        have HACT := hid hac
        clear hac
        go_wp2
        go_ret
        exact ⟨HB4.out, _, rfl, .inr (.inr ⟨HASK.out, k, HAT.out, .inl ⟨HACT.out, rfl⟩⟩)⟩
      | true =>
        have HACT := hid hac
        clear hac
        go_wp2_with fail
        refine (HHH.out w4 k.root _ HB4.out HX4.out HKF.out.1).mono ?_
        rintro e w5 ⟨hb5, bb, rfl, hbb⟩
        have HB5 := hid (HB4.out.trans (hb5.mono HB4.out.size))
        have HBB := hid hbb
        clear hb5 hbb
        cases bb with
        | true =>
          go_wp2
          go_ret
          exact ⟨HB5.out, _, rfl, .inr (.inr ⟨HASK.out, k, HAT.out, .inr ⟨HACT.out, .inl ⟨HBB.out.1 (by simp), rfl⟩⟩⟩)⟩
        | false =>
          go_wp2
          go_ret
          exact ⟨HB5.out, _, rfl, .inr (.inr ⟨HASK.out, k, HAT.out, .inr ⟨HACT.out, .inr ⟨fun h => absurd (HBB.out.2 h) (by simp), rfl⟩⟩⟩)⟩
  · have HASK := hid hask
    have e1 : (askedN c now != 0) = true := by simpa using hask
    clear hask
    generalize hz : askedN c now = z at *
    have HZ := hid hz
    clear hz
    go_wp2
    go_ret
    exact ⟨HB1.out, _, rfl, .inl ⟨by rw [HZ.out]; exact HASK.out, HZ.out.symm⟩⟩
set_option maxRecDepth 100000 in
set_option maxHeartbeats 4000000 in
theorem shownG_any (P : List (BitVec 8) → Prop) (c : Cl) (now height : Int) (gk gg : Nat) (cv : Value) (N : Nat) (w : World) (hN : N ≤ w.heap.size) (hcv : ClV w N cv c) (hcf : c.fits)
    (hh : ∀ (wx : World) (root : List (BitVec 8)) (rv : Value), Below w.heap.size w wx → Bytes wx wx.heap.size rv root → root.length ≤ 140737488351232 → Calls Tryz.prog 147 #[rv, .pointer (some ⟨gk, 0, none⟩), .pointer (some ⟨gg, 0, none⟩)] wx fun e w' => Below wx.heap.size wx w' ∧ Tells (P root) e) :
    Calls Tryz.prog 95 #[cv, .int .i64 now, .int .i64 height, .func (.func 147) #[] #[.pointer (some ⟨gk, 0, none⟩), .pointer (some ⟨gg, 0, none⟩)]] w fun e w' => Below w.heap.size w w' ∧ ∃ z, e = .returned (.int .i64 z) ∧ ShownN c now height P z := by
  have HAS := hid (show ∀ wx, Below w.heap.size w wx → _ from fun wx hx => askedC c now cv N wx (hcv.below (hx.mono hN)) (Nat.le_trans hN hx.size) hcf)
  have HFI := hid (show ∀ wx, Below w.heap.size w wx → _ from fun wx hx => findC c height cv N wx (hcv.below (hx.mono hN)) (Nat.le_trans hN hx.size) hcf)
  have HCV := hid hcv
  have HHH := hid hh
  have HCF := hid hcf
  obtain ⟨kv, rfl, hk⟩ := hcv
  obtain ⟨oa, ca, rfl, hca⟩ := hk.shape
  obtain ⟨w0, hw0⟩ : ∃ w0, w.alloc (.cells #[.string c.chain, .int .i64 c.trust, .bool c.frozen, .slice oa c.known.length ca] 79) = w0 := ⟨_, rfl⟩
  have HB0 := hid (show Below w.heap.size w w0 by rw [← hw0]; exact (Below.refl _ _).alloc (Nat.le_refl _) _)
  have HR0 := hid (show Row w0 w.heap.size 79 [.string c.chain, .int .i64 c.trust, .bool c.frozen, .slice oa c.known.length ca] by rw [← hw0]; exact Row.new _ _ _)
  have HW0 := hid hw0
  obtain ⟨⟨a0, a1, a2, a3⟩, _⟩ := HR0.out.four
  clear hw0 hk hh hcf hca
  go_enter Tryz.func95, Tryz.ntmps95
  go_wp2_with fail
  rw [HW0.out]
  refine (HAS.out _ HB0.out).mono ?_
  rintro e w1 ⟨rfl, hb1⟩
  have HB1 := hid (HB0.out.trans (hb1.mono HB0.out.size))
  have HR1 := hid (HR0.out.below hb1 HR0.out.lt)
  clear hb1 a0 a1 a2 a3
  obtain ⟨⟨a0, a1, a2, a3⟩, _⟩ := HR1.out.four
  by_cases hask : askedN c now = 0
  · rw [hask]
    have HASK := hid hask
    have HAC := hid (show ∀ wx, Below w.heap.size w wx → Calls Tryz.prog 139 #[.agg #[.string c.chain, .int .i64 c.trust, .bool c.frozen, .slice oa c.known.length ca], .int .i64 now] wx _ from fun wx hx => activeC c now _ N wx (HCV.out.below (hx.mono hN)) (Nat.le_trans hN hx.size) (askedN_ok HASK.out).1 (askedN_ok HASK.out).2.1)
    clear hask
    go_wp2_with fail
    refine (HFI.out _ HB1.out).mono ?_
    rintro e w2 ⟨hb2, p1, d1, p2, d2, rfl, hx1, hx2⟩
    have HB2 := hid (HB1.out.trans (hb2.mono HB1.out.size))
    have HR2 := hid (HR1.out.below hb2 HR1.out.lt)
    clear hb2 a0 a1 a2 a3
    obtain ⟨⟨a0, a1, a2, a3⟩, _⟩ := HR2.out.four
    have m1 : w.heap.size < w2.heap.size := HR2.out.lt
    have m2 : w.heap.size ≠ w2.heap.size := by omega
    cases hat : atK c.known height with
    | none =>
      have HAT := hid hat
      clear hat hx1 hx2
      simp only [Option.isSome]
      generalize knAt c.known height = k at *
      go_wp2
      go_ret
      exact ⟨HB2.out.alloc HB2.out.size _, _, rfl, .inr (.inl ⟨HASK.out, HAT.out, rfl⟩)⟩
    | some k =>
      have HAT := hid hat
      rw [knAt_some hat] at hx1
      rw [knAt_some hat]
      simp only [Option.isSome]
      obtain ⟨w3, hw3⟩ : ∃ w3, w2.alloc (.cells #[.int .i64 k.height, .int .i64 k.time, .slice p1 k.root.length d1, .slice p2 k.next.length d2] 93) = w3 := ⟨_, rfl⟩
      have hb3 : Below w2.heap.size w2 w3 := by rw [← hw3]; exact (Below.refl _ _).alloc (Nat.le_refl _) _
      have HB3 := hid (HB2.out.trans (hb3.mono HB2.out.size))
      have HRK3 := hid (show Row w3 w2.heap.size 93 [.int .i64 k.height, .int .i64 k.time, .slice p1 k.root.length d1, .slice p2 k.next.length d2] by rw [← hw3]; exact Row.new _ _ _)
      have HX1 := hid ((hx1.below hb3).mono hb3.size)
      have HKF := hid (HCF.out.2.2 k (atK_some hat).1)
      have HW3 := hid hw3
      clear hat hx1 hx2 hb3 hw3
      go_wp2_with fail
      rw [HW3.out]
      refine (HAC.out _ HB3.out).mono ?_
      rintro e w4 ⟨rfl, hb4⟩
      have HB4 := hid (HB3.out.trans (hb4.mono HB3.out.size))
      have HRK4 := hid (HRK3.out.below hb4 HRK3.out.lt)
      have HX4 := hid ((HX1.out.below hb4).mono hb4.size)
      clear hb4 a0 a1 a2 a3 m1 m2
      obtain ⟨⟨a0, a1, a2, a3⟩, _⟩ := HRK4.out.four
      cases hac : activeB c now with
      | false =>
        have HACT := hid hac
        clear hac
        go_wp2
        go_ret
        exact ⟨HB4.out, _, rfl, .inr (.inr ⟨HASK.out, k, HAT.out, .inl ⟨HACT.out, rfl⟩⟩)⟩
      | true =>
        have HACT := hid hac
        clear hac
        go_wp2_with fail
        refine (HHH.out w4 k.root _ HB4.out HX4.out HKF.out.1).mono ?_
        rintro e w5 ⟨hb5, bb, rfl, hbb⟩
        have HB5 := hid (HB4.out.trans (hb5.mono HB4.out.size))
        have HBB := hid hbb
        clear hb5 hbb
        cases bb with
        | true =>
          go_wp2
          go_ret
          exact ⟨HB5.out, _, rfl, .inr (.inr ⟨HASK.out, k, HAT.out, .inr ⟨HACT.out, .inl ⟨HBB.out.1 (by simp), rfl⟩⟩⟩)⟩
        | false =>
          go_wp2
          go_ret
          exact ⟨HB5.out, _, rfl, .inr (.inr ⟨HASK.out, k, HAT.out, .inr ⟨HACT.out, .inr ⟨fun h => absurd (HBB.out.2 h) (by simp), rfl⟩⟩⟩)⟩
  · have HASK := hid hask
    have e1 : (askedN c now != 0) = true := by simpa using hask
    clear hask
    generalize hz : askedN c now = z at *
    have HZ := hid hz
    clear hz
    go_wp2
    go_ret
    exact ⟨HB1.out, _, rfl, .inl ⟨by rw [HZ.out]; exact HASK.out, HZ.out.symm⟩⟩
/-- what Member is to answer -/
def MemberC (f : FuncId) : Prop := ∀ (c : Cl) (now height : Int) (key val : List (BitVec 8)) (p : Prf) (cv kv vv pv : Value) (N : Nat) (w : World), tableAt w → N ≤ w.heap.size → ClV w N cv c → Bytes w N kv key → Bytes w N vv val → PrfV w N pv p → c.fits → key.length ≤ 140737488351232 → val.length ≤ 140737488351232 → p.fits →
  Calls Tryz.prog f #[cv, .int .i64 now, .int .i64 height, kv, vv, pv] w fun e w' => Below w.heap.size w w' ∧ ∃ z, e = .returned (.int .i64 z) ∧ ShownN c now height (fun r => p.key = key ∧ p.val = val ∧ shownB r p) z
/-- what Missing is to answer -/
def MissingC (f : FuncId) : Prop := ∀ (c : Cl) (now height : Int) (key : List (BitVec 8)) (g : Gp) (cv kv gv : Value) (N : Nat) (w : World), tableAt w → N ≤ w.heap.size → ClV w N cv c → Bytes w N kv key → GpV w N gv g → c.fits → key.length ≤ 140737488351232 → g.fits →
  Calls Tryz.prog f #[cv, .int .i64 now, .int .i64 height, kv, gv] w fun e w' => Below w.heap.size w w' ∧ ∃ z, e = .returned (.int .i64 z) ∧ ShownN c now height (fun r => absentB r key g) z
set_option maxRecDepth 100000 in
set_option maxHeartbeats 4000000 in
theorem memberC : MemberC 45 := by
  intro c now height key val p cv kv vv pv N w htab hN hcv hk hv hp hcf hkl hvl hpf
  have HCV := hid hcv
  have HP := hid hp
  have HK := hid hk
  have HV := hid hv
  have HTAB := hid htab
  obtain ⟨xv, rfl, hkn⟩ := hcv
  obtain ⟨oa, ca, rfl, hca⟩ := hkn.shape
  obtain ⟨o1, c1, rfl, _⟩ := hk.shape
  obtain ⟨o2, c2, rfl, _⟩ := hv.shape
  obtain ⟨x1, x2, x3, rfl, h1, h2, h3⟩ := hp
  obtain ⟨q1, y1, rfl, _⟩ := h1.shape
  obtain ⟨q2, y2, rfl, _⟩ := h2.shape
  obtain ⟨q3, y3, rfl, _⟩ := h3.shape
  obtain ⟨w0, hw0⟩ : ∃ w0, (((w.alloc (.cells #[.string c.chain, .int .i64 c.trust, .bool c.frozen, .slice oa c.known.length ca] 79)).alloc (.cells #[.slice o1 key.length c1] 29)).alloc (.cells #[.slice o2 val.length c2] 29)).alloc (.cells #[.int .i64 p.index, .int .i64 p.size, .slice q1 p.key.length y1, .slice q2 p.val.length y2, .slice q3 p.path.length y3] 34) = w0 := ⟨_, rfl⟩
  have hb0 : Below w.heap.size w w0 := by rw [← hw0]; exact ((((Below.refl _ _).alloc (Nat.le_refl _) _).alloc (by simp) _).alloc (by simp; omega) _).alloc (by simp; omega) _
  have hr0 : Row w0 w.heap.size 79 [.string c.chain, .int .i64 c.trust, .bool c.frozen, .slice oa c.known.length ca] := by rw [← hw0]; exact (((Row.new _ _ _).alloc _).alloc _).alloc _
  have hr1 : Row w0 (w.heap.size + 1) 29 [.slice o1 key.length c1] := by rw [← hw0]; exact ((Row.newAt _ _ _ _ (by simp)).alloc _).alloc _
  have hr2 : Row w0 (w.heap.size + 1 + 1) 29 [.slice o2 val.length c2] := by rw [← hw0]; exact (Row.newAt _ _ _ _ (by simp)).alloc _
  have hr3 : Row w0 (w.heap.size + 1 + 1 + 1) 34 [.int .i64 p.index, .int .i64 p.size, .slice q1 p.key.length y1, .slice q2 p.val.length y2, .slice q3 p.path.length y3] := by rw [← hw0]; exact Row.newAt _ _ _ _ (by simp)
  have HSH := hid (shownM_any (fun r => p.key = key ∧ p.val = val ∧ shownB r p) c now height (w.heap.size + 1 + 1 + 1) (w.heap.size + 1) (w.heap.size + 1 + 1) (.agg #[.string c.chain, .int .i64 c.trust, .bool c.frozen, .slice oa c.known.length ca]) N w0 (Nat.le_trans hN hb0.size) (HCV.out.below (hb0.mono hN)) hcf
    (fun wx root rv hx hr hrl => by
      have hbx := hb0.trans (hx.mono hb0.size)
      exact member1_any p key val root _ _ _ _ _ _ rv N wx (HTAB.out.below hbx HTAB.out.lt) (Nat.le_trans hN hbx.size) (HP.out.below (hbx.mono hN)) (HK.out.below (hbx.mono hN)) (HV.out.below (hbx.mono hN)) hr hpf hrl ⟨_, rfl, hr3.below hx hr3.lt⟩ (hr1.below hx hr1.lt) (hr2.below hx hr2.lt)))
  have HB0 := hid hb0
  have HW0 := hid hw0
  obtain ⟨⟨a0, a1, a2, a3⟩, _⟩ := hr0.four
  clear hkn hk hv h1 h2 h3 hw0 hb0 hr0 hr1 hr2 hr3 htab hcf hpf
  go_enter Tryz.func45, Tryz.ntmps45
  go_wp2_with fail
  rw [HW0.out]
  refine HSH.out.mono ?_
  rintro e w1 ⟨hb1, z, rfl, hz⟩
  have HB1 := hid (HB0.out.trans (hb1.mono HB0.out.size))
  have HZ := hid hz
  clear hb1 hz
  go_wp2
  go_ret
  exact ⟨HB1.out, z, rfl, HZ.out⟩
set_option maxRecDepth 100000 in
set_option maxHeartbeats 4000000 in
theorem missingC : MissingC 108 := by
  intro c now height key g cv kv gv N w htab hN hcv hk hg hcf hkl hgf
  have HCV := hid hcv
  have HG := hid hg
  have HK := hid hk
  have HTAB := hid htab
  obtain ⟨xv, rfl, hkn⟩ := hcv
  obtain ⟨oa, ca, rfl, hca⟩ := hkn.shape
  obtain ⟨o1, c1, rfl, _⟩ := hk.shape
  obtain ⟨k1, v1, t1, k2, v2, t2, rfl, h1, h2, h3, h4, h5, h6⟩ := hg
  obtain ⟨q1, y1, rfl, _⟩ := h1.shape
  obtain ⟨q2, y2, rfl, _⟩ := h2.shape
  obtain ⟨q3, y3, rfl, _⟩ := h3.shape
  obtain ⟨q4, y4, rfl, _⟩ := h4.shape
  obtain ⟨q5, y5, rfl, _⟩ := h5.shape
  obtain ⟨q6, y6, rfl, _⟩ := h6.shape
  obtain ⟨gs, hgs⟩ : ∃ gs : List Value, gs = [.bool g.hasL, .bool g.hasR, .int .i64 g.left.index, .int .i64 g.left.size, .slice q1 g.left.key.length y1, .slice q2 g.left.val.length y2, .slice q3 g.left.path.length y3, .int .i64 g.right.index, .int .i64 g.right.size, .slice q4 g.right.key.length y4, .slice q5 g.right.val.length y5, .slice q6 g.right.path.length y6] := ⟨_, rfl⟩
  obtain ⟨w0, hw0⟩ : ∃ w0, ((w.alloc (.cells #[.string c.chain, .int .i64 c.trust, .bool c.frozen, .slice oa c.known.length ca] 79)).alloc (.cells #[.slice o1 key.length c1] 29)).alloc (.cells #[.bool g.hasL, .bool g.hasR, .int .i64 g.left.index, .int .i64 g.left.size, .slice q1 g.left.key.length y1, .slice q2 g.left.val.length y2, .slice q3 g.left.path.length y3, .int .i64 g.right.index, .int .i64 g.right.size, .slice q4 g.right.key.length y4, .slice q5 g.right.val.length y5, .slice q6 g.right.path.length y6] 36) = w0 := ⟨_, rfl⟩
  have hb0 : Below w.heap.size w w0 := by rw [← hw0]; exact (((Below.refl _ _).alloc (Nat.le_refl _) _).alloc (by simp) _).alloc (by simp; omega) _
  have hr0 : Row w0 w.heap.size 79 [.string c.chain, .int .i64 c.trust, .bool c.frozen, .slice oa c.known.length ca] := by rw [← hw0]; exact ((Row.new _ _ _).alloc _).alloc _
  have hr1 : Row w0 (w.heap.size + 1) 29 [.slice o1 key.length c1] := by rw [← hw0]; exact (Row.newAt _ _ _ _ (by simp)).alloc _
  have hr2 : Row w0 (w.heap.size + 1 + 1) 36 gs := by rw [← hw0, hgs]; exact Row.newAt _ _ _ _ (by simp)
  have HSH := hid (shownG_any (fun r => absentB r key g) c now height (w.heap.size + 1) (w.heap.size + 1 + 1) (.agg #[.string c.chain, .int .i64 c.trust, .bool c.frozen, .slice oa c.known.length ca]) N w0 (Nat.le_trans hN hb0.size) (HCV.out.below (hb0.mono hN)) hcf
    (fun wx root rv hx hr hrl => by
      have hbx := hb0.trans (hx.mono hb0.size)
      exact missing1_any g key root _ _ _ _ rv N wx (HTAB.out.below hbx HTAB.out.lt) (Nat.le_trans hN hbx.size) (HG.out.below (hbx.mono hN)) (HK.out.below (hbx.mono hN)) hr hgf hkl hrl ⟨_, rfl, by have := hr2.below hx hr2.lt; rw [hgs] at this; exact this⟩ (hr1.below hx hr1.lt)))
  have HB0 := hid hb0
  have HW0 := hid hw0
  obtain ⟨⟨a0, a1, a2, a3⟩, _⟩ := hr0.four
  clear hkn hk h1 h2 h3 h4 h5 h6 hw0 hb0 hr0 hr1 hr2 htab hcf hgf hgs
  go_enter Tryz.func108, Tryz.ntmps108
  go_wp2_with fail
  rw [HW0.out]
  refine HSH.out.mono ?_
  rintro e w1 ⟨hb1, z, rfl, hz⟩
  have HB1 := hid (HB0.out.trans (hb1.mono HB0.out.size))
  have HZ := hid hz
  clear hb1 hz
  go_wp2
  go_ret
  exact ⟨HB1.out, z, rfl, HZ.out⟩
theorem ShownN.some (c : Cl) (now height : Int) (P : List (BitVec 8) → Prop) : ∃ z, ShownN c now height P z := by
  by_cases h1 : askedN c now = 0
  · cases h2 : atK c.known height with
    | none => exact ⟨6, .inr (.inl ⟨h1, h2, rfl⟩)⟩
    | some k =>
      cases h3 : activeB c now with
      | false => exact ⟨11, .inr (.inr ⟨h1, k, h2, .inl ⟨h3, rfl⟩⟩)⟩
      | true =>
        by_cases h4 : P k.root
        · exact ⟨0, .inr (.inr ⟨h1, k, h2, .inr ⟨h3, .inl ⟨h4, rfl⟩⟩⟩)⟩
        · exact ⟨9, .inr (.inr ⟨h1, k, h2, .inr ⟨h3, .inr ⟨h4, rfl⟩⟩⟩)⟩
  · exact ⟨askedN c now, .inl ⟨h1, rfl⟩⟩
theorem MemberC.z {f : FuncId} (h : MemberC f) (c : Cl) (now height : Int) (key val : List (BitVec 8)) (p : Prf) (cv kv vv pv : Value) (N : Nat) (w : World) (h1 : tableAt w) (h2 : N ≤ w.heap.size) (h3 : ClV w N cv c) (h4 : Bytes w N kv key) (h5 : Bytes w N vv val) (h6 : PrfV w N pv p) (h7 : c.fits) (h8 : key.length ≤ 140737488351232) (h9 : val.length ≤ 140737488351232) (h10 : p.fits) {zm : Int} (hz : ShownN c now height (fun r => p.key = key ∧ p.val = val ∧ shownB r p) zm) :
    Calls Tryz.prog f #[cv, .int .i64 now, .int .i64 height, kv, vv, pv] w fun e w' => e = .returned (.int .i64 zm) ∧ Below w.heap.size w w' := by
  refine (h c now height key val p cv kv vv pv N w h1 h2 h3 h4 h5 h6 h7 h8 h9 h10).mono ?_
  rintro e w' ⟨hb, z, rfl, hz'⟩
  exact ⟨by rw [hz'.eq hz], hb⟩
theorem MissingC.z {f : FuncId} (h : MissingC f) (c : Cl) (now height : Int) (key : List (BitVec 8)) (g : Gp) (cv kv gv : Value) (N : Nat) (w : World) (h1 : tableAt w) (h2 : N ≤ w.heap.size) (h3 : ClV w N cv c) (h4 : Bytes w N kv key) (h6 : GpV w N gv g) (h7 : c.fits) (h8 : key.length ≤ 140737488351232) (h10 : g.fits) {za : Int} (hz : ShownN c now height (fun r => absentB r key g) za) :
    Calls Tryz.prog f #[cv, .int .i64 now, .int .i64 height, kv, gv] w fun e w' => e = .returned (.int .i64 za) ∧ Below w.heap.size w w' := by
  refine (h c now height key g cv kv gv N w h1 h2 h3 h4 h6 h7 h8 h10).mono ?_
  rintro e w' ⟨hb, z, rfl, hz'⟩
  exact ⟨by rw [hz'.eq hz], hb⟩
end Go.Proofs.YtclhcjiblfokaaaGreatDoor
