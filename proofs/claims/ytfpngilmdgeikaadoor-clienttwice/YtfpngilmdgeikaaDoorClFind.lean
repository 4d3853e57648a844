/-
  What package client's find and At answer: what a client knows of a height; what is known, in memory of its own.
-/
import Derived.Test.YtfpngilmdgeikaaDoorClWrong
import Derived.Test.YtfpngilmdgeikaaDoorProofEq
import Derived.Deep.RegionHeld3
import Derived.Deep.RegionWith
namespace Go.Proofs.YtfpngilmdgeikaaDoor
open Go.RowKit

theorem beqI (a b : Int) : (a == b) = decide (a = b) := by rw [Bool.eq_iff_iff]; simp
theorem find1_any (k : Kn) (h : Int) (g : Nat) (v : Value) (N : Nat) (w : World) (hv : KnV w N v k) (hc : w.cell? ⟨g, 0, none⟩ = some (.int .i64 h)) :
    Calls Tryd.prog 135 #[v, .pointer (some ⟨g, 0, none⟩)] w fun e w' => e = .returned (.bool (decide (k.height = h))) ∧ Below w.heap.size w w' := by
  obtain ⟨rv, nv, rfl, h1, h2⟩ := hv
  obtain ⟨o1, c1, rfl, _⟩ := h1.shape
  obtain ⟨o2, c2, rfl, _⟩ := h2.shape
  clear h1 h2
  obtain ⟨w0, hw0⟩ : ∃ w0, w.alloc (.cells #[.int .i64 k.height, .int .i64 k.time, .slice o1 k.root.length c1, .slice o2 k.next.length c2] 73) = w0 := ⟨_, rfl⟩
  have hb0 : Below w.heap.size w w0 := by rw [← hw0]; exact (Below.refl _ _).alloc (Nat.le_refl _) _
  have HB0 := hid hb0
  have hr0 := (show Row w0 w.heap.size 73 [.int .i64 k.height, .int .i64 k.time, .slice o1 k.root.length c1, .slice o2 k.next.length c2] by rw [← hw0]; exact Row.new _ _ _)
  have k0 := hr0.cell 0
  have hc0 := (hb0.cell (p := ⟨g, 0, none⟩) (block_lt_of_cell hc)).trans hc
  clear hr0 hb0 hc
  go_enter Tryd.func135, Tryd.ntmps135
  go_wp2
  go_ret
  exact ⟨by rw [← beqI]; first | done | rfl, HB0.out⟩
theorem atK_first {l : List Kn} {h : Int} {j : Nat} {k : Kn} (hno : ∀ x ∈ l.take j, x.height ≠ h) (hk : l[j]? = some k) (e : k.height = h) : atK l h = some k := by
  obtain ⟨hj, rfl⟩ := List.getElem?_eq_some_iff.1 hk
  unfold atK
  have hl : l = l.take j ++ l[j] :: l.drop (j + 1) := by rw [← List.drop_eq_getElem_cons hj, List.take_append_drop]
  rw [show l.find? (fun k => decide (k.height = h)) = (l.take j ++ l[j] :: l.drop (j + 1)).find? (fun k => decide (k.height = h)) from congrArg _ hl]
  rw [List.find?_append, List.find?_eq_none.2 (fun x hx => by simpa using hno x hx), List.find?_cons_of_pos (by simpa using e)]
  rfl
/-- the place of the first one of a height -/
def IdxK (l : List Kn) (h : Int) (i : Int) : Prop := (i = -1 ∧ atK l h = none) ∨ ∃ (j : Nat) (k : Kn), i = (j : Int) ∧ l[j]? = some k ∧ atK l h = some k
set_option maxRecDepth 100000 in
set_option maxHeartbeats 2000000 in
theorem indexKn_any (l : List Kn) (h : Int) (g : Nat) (v : Value) (N : Nat) (w : World) (hN : N ≤ w.heap.size) (hv : Knowns w N v l) (hlen : l.length < 2305843009213693952) (hc : w.cell? ⟨g, 0, none⟩ = some (.int .i64 h)) :
    Calls Tryd.prog 134 #[v, .func (.func 135) #[] #[.pointer (some ⟨g, 0, none⟩)]] w fun e w' => Below w.heap.size w w' ∧ ∃ i : Int, e = .returned (.int .i64 i) ∧ IdxK l h i := by
  obtain ⟨oa, ca, rfl, hca⟩ := hv.shape
  have HL := hid hv
  have HC := hid hc
  have hgl := block_lt_of_cell hc
  clear hv hc
  generalize hn : l.length = n at *
  have HN := hid hn
  clear hn
  go_enter Tryd.func134, Tryd.ntmps134
  go_wp2_with fail
  go_loopw [5, 8] (fun _ s8 wr => ∃ k : Nat, k ≤ n ∧ s8 = .int .i64 (k : Int) ∧ Hid (Below w.heap.size w wr ∧ ∀ x ∈ l.take k, x.height ≠ h)) (fun _ s8 _ => n - (intOf s8).toNat)
  case atStart => exact ⟨0, Nat.zero_le _, rfl, hid ⟨Below.refl _ _, by simp⟩⟩
  case round =>
    obtain ⟨k, hk, rfl, HR⟩ := hrel
    have hszr := HR.out.1.size
    by_cases hlt : k < n
    · have hlt' : (k : Int) < (n : Int) := by omega
      obtain ⟨x, hx⟩ : ∃ x, l[k]? = some x := ⟨l[k]'(by rw [HN.out]; exact hlt), List.getElem?_eq_getElem _⟩
      obtain ⟨b, o, rfl, hcells⟩ := HL.out.spot (by omega)
      obtain ⟨hbN, vr, vn, d0, d1, d2, d3, b2, b3⟩ := hcells k x hx
      obtain ⟨o2, c2, rfl, _⟩ := b2.shape
      obtain ⟨o3, c3, rfl, _⟩ := b3.shape
      have hbl : b < w.heap.size := by omega
      have f0 := (HR.out.1.cell (p := ⟨b, o + k * 4, none⟩) hbl).trans d0
      have f1 := (HR.out.1.cell (p := ⟨b, o + k * 4 + 1, none⟩) hbl).trans d1
      have f2 := (HR.out.1.cell (p := ⟨b, o + k * 4 + 2, none⟩) hbl).trans d2
      have f3 := (HR.out.1.cell (p := ⟨b, o + k * 4 + 3, none⟩) hbl).trans d3
      have HF := hid (find1_any x h g (.agg #[.int .i64 x.height, .int .i64 x.time, .slice o2 x.root.length c2, .slice o3 x.next.length c3]) N wr ⟨_, _, rfl, b2.below (HR.out.1.mono hN), b3.below (HR.out.1.mono hN)⟩ ((HR.out.1.cell (p := ⟨g, 0, none⟩) hgl).trans HC.out))
      have HX := hid hx
      clear hcells d0 d1 d2 d3 b2 b3 hx
      by_cases he : x.height = h
      · have HE := hid he
        rw [decide_eq_true he] at HF
        clear he
        go_wp2_with fail
        refine HF.out.mono ?_
        rintro e w5 ⟨rfl, hb5⟩
        have HB5 := hid (HR.out.1.trans (hb5.mono hszr))
        clear hb5
        go_wp2
        go_ret
        exact ⟨HB5.out, _, rfl, .inr ⟨k, x, rfl, HX.out, atK_first HR.out.2 HX.out HE.out⟩⟩
      · have HE := hid he
        rw [decide_eq_false he] at HF
        have HTK := hid (show ∀ y ∈ l.take (k + 1), y.height ≠ h from fun y hy => by
          rw [List.take_add_one, HX.out] at hy
          rcases List.mem_append.1 hy with hy | hy
          · exact HR.out.2 y hy
          · obtain rfl : y = x := by simpa using hy
            exact HE.out)
        clear he
        go_wp2_with fail
        refine HF.out.mono ?_
        rintro e w5 ⟨rfl, hb5⟩
        have HB5 := hid (HR.out.1.trans (hb5.mono hszr))
        clear hb5
        go_wp2
        go_roundw
        case rel => exact ⟨k + 1, by omega, by go_num, hid ⟨HB5.out, HTK.out⟩⟩
        case measure => simp [intOf]; omega
    · have hge : decide ((k : Int) < (n : Int)) = false := by simp; omega
      go_wp2
      go_ret
      refine ⟨HR.out.1, _, rfl, .inl ⟨rfl, atK_of fun x hx => HR.out.2 x ?_⟩⟩
      rw [List.take_of_length_le (by rw [HN.out]; omega)]
      exact hx
/-- what is answered of a height: what is known of it, or nothing -/
def knAt (l : List Kn) (h : Int) : Kn := (atK l h).getD Kn.none
theorem knAt_some {l : List Kn} {h : Int} {k : Kn} (e : atK l h = some k) : knAt l h = k := by unfold knAt; rw [e]; rfl
theorem knAt_none {l : List Kn} {h : Int} (e : atK l h = none) : knAt l h = Kn.none := by unfold knAt; rw [e]; rfl
/-- what At is to answer -/
def AtC (f : FuncId) : Prop := ∀ (c : Cl) (h : Int) (v : Value) (N : Nat) (w : World), ClV w N v c → N ≤ w.heap.size → c.fits →
  Calls Tryd.prog f #[v, .int .i64 h] w fun e w' => Below w.heap.size w w' ∧ ∃ o1 c1 o2 c2, e = .returned (.tuple #[.agg #[.int .i64 (knAt c.known h).height, .int .i64 (knAt c.known h).time, .slice o1 (knAt c.known h).root.length c1, .slice o2 (knAt c.known h).next.length c2], .bool (atK c.known h).isSome]) ∧ Bytes w' w'.heap.size (.slice o1 (knAt c.known h).root.length c1) (knAt c.known h).root ∧ Bytes w' w'.heap.size (.slice o2 (knAt c.known h).next.length c2) (knAt c.known h).next
set_option maxRecDepth 100000 in
set_option maxHeartbeats 4000000 in
theorem findC : AtC 90 := by
  intro c h v N w hv hN hfit
  obtain ⟨kv, rfl, hk⟩ := hv
  obtain ⟨f1, f2, f3⟩ := hfit
  obtain ⟨oa, ca, rfl, hca⟩ := hk.shape
  obtain ⟨w0, hw0⟩ : ∃ w0, ((w.alloc (.cells #[.string c.chain, .int .i64 c.trust, .bool c.frozen, .slice oa c.known.length ca] 59)).alloc (.cells #[.int .i64 h] 3)).alloc (.cells #[.int .i64 0, .int .i64 0, .slice none 0 0, .slice none 0 0] 73) = w0 := ⟨_, rfl⟩
  have hb0 : Below w.heap.size w w0 := by rw [← hw0]; exact (((Below.refl _ _).alloc (Nat.le_refl _) _).alloc (by simp) _).alloc (by simp; omega) _
  have hra : Row (w.alloc (.cells #[.string c.chain, .int .i64 c.trust, .bool c.frozen, .slice oa c.known.length ca] 59)) w.heap.size 59 [.string c.chain, .int .i64 c.trust, .bool c.frozen, .slice oa c.known.length ca] := Row.new _ _ _
  have hr0 : Row w0 w.heap.size 59 [.string c.chain, .int .i64 c.trust, .bool c.frozen, .slice oa c.known.length ca] := by rw [← hw0]; exact (hra.alloc _).alloc _
  have hr1 : Row w0 (w.heap.size + 1) 3 [.int .i64 h] := by
    rw [← hw0]
    have := Row.new (w.alloc (.cells #[.string c.chain, .int .i64 c.trust, .bool c.frozen, .slice oa c.known.length ca] 59)) 3 [.int .i64 h]
    simp only [World.size_alloc] at this
    exact this.alloc _
  have hr2 : Row w0 (w.heap.size + 1 + 1) 73 [.int .i64 0, .int .i64 0, .slice none 0 0, .slice none 0 0] := by
    rw [← hw0]
    have := Row.new ((w.alloc (.cells #[.string c.chain, .int .i64 c.trust, .bool c.frozen, .slice oa c.known.length ca] 59)).alloc (.cells #[.int .i64 h] 3)) 73 [.int .i64 0, .int .i64 0, .slice none 0 0, .slice none 0 0]
    simp only [World.size_alloc] at this
    exact this
  have HI := hid (indexKn_any c.known h (w.heap.size + 1) _ N w0 (Nat.le_trans hN hb0.size) (hk.below (hb0.mono hN)) f2 (hr1.cell 0))
  have HK := hid hk
  have HB0 := hid hb0
  have HR0 := hid hr0
  have HR2 := hid hr2
  have k3 := hr0.cell 3
  have HW0 := hid hw0
  clear hk hb0 hr0 hr1 hr2 hra f3
  generalize hnn : c.known.length = n at *
  have HN := hid hnn
  clear hnn
  clear hw0
  go_enter Tryd.func90, Tryd.ntmps90
  go_wp2_with fail
  rw [HW0.out]
  refine HI.out.mono ?_
  rintro e w1 ⟨hb1, i, rfl, hix⟩
  have HB1 := hid (HB0.out.trans (hb1.mono HB0.out.size))
  have r3 := (HR0.out.below hb1 HR0.out.lt).cell 3
  have HR21 := hid (HR2.out.below hb1 HR2.out.lt)
  obtain ⟨⟨y0, y1, y2, y3⟩, z0, z1, z2, z3⟩ := HR21.out.four
  clear hb1 k3
  rcases hix with ⟨rfl, hno⟩ | ⟨j, k, rfl, hj, hat⟩
  · have HNO := hid hno
    have e1 : decide ((-1 : Int) < 0) = true := by decide
    clear hno
    go_wp2
    have hrz := set4_row HR21.out (.int .i64 0) (.int .i64 0) (.slice none 0 0) (.slice none 0 0)
    obtain ⟨⟨u0, u1, u2, u3⟩, _⟩ := hrz.four
    have hbz := set4_below HB1.out (show w.heap.size ≤ w.heap.size + 1 + 1 by omega) (.int .i64 0) (.int .i64 0) (.slice none 0 0) (.slice none 0 0)
    unfold set4 at u0 u1 u2 u3
    refine bodyPost_ret (v := .tuple #[.agg #[.int .i64 0, .int .i64 0, .slice none 0 0, .slice none 0 0], .bool false]) (by simp [results, Tryd.results90, go_sem, u0, u1, u2, u3]) rfl ⟨hbz, none, 0, none, 0, ?_⟩
    rw [knAt_none HNO.out, HNO.out]
    exact ⟨rfl, .inl ⟨rfl, rfl⟩, .inl ⟨rfl, rfl⟩⟩
  · have hjn : j < n := by rw [← HN.out]; exact (List.getElem?_eq_some_iff.1 hj).1
    obtain ⟨b, o, rfl, hcells⟩ := HK.out.spot (by omega)
    obtain ⟨hbN, vr, vn, d0, d1, d2, d3, b2, b3⟩ := hcells j k hj
    obtain ⟨o2, c2, rfl, _⟩ := b2.shape
    obtain ⟨o3, c3, rfl, _⟩ := b3.shape
    have hbl : b < w.heap.size := by omega
    have f0 := (HB1.out.cell (p := ⟨b, o + j * 4, none⟩) hbl).trans d0
    have f1 := (HB1.out.cell (p := ⟨b, o + j * 4 + 1, none⟩) hbl).trans d1
    have f2 := (HB1.out.cell (p := ⟨b, o + j * 4 + 2, none⟩) hbl).trans d2
    have f3 := (HB1.out.cell (p := ⟨b, o + j * 4 + 3, none⟩) hbl).trans d3
    have HAT := hid hat
    have HBY := hid (And.intro b2 b3)
    have e1 : decide ((j : Int) < 0) = false := by simp
    have e2 : (j : Int) < (n : Int) := by omega
    clear hcells hj hat d0 d1 d2 d3 b2 b3
    go_wp2
    have hrz := set4_row HR21.out (.int .i64 k.height) (.int .i64 k.time) (.slice o2 k.root.length c2) (.slice o3 k.next.length c3)
    obtain ⟨⟨u0, u1, u2, u3⟩, _⟩ := hrz.four
    have hbz := set4_below HB1.out (show w.heap.size ≤ w.heap.size + 1 + 1 by omega) (.int .i64 k.height) (.int .i64 k.time) (.slice o2 k.root.length c2) (.slice o3 k.next.length c3)
    have w2 := set4_bytes (g := w.heap.size + 1 + 1) (a := .int .i64 k.height) (b := .int .i64 k.time) (c := .slice o2 k.root.length c2) (d := .slice o3 k.next.length c3) (HBY.out.1.below (HB1.out.mono hN)) (by omega)
    have w3 := set4_bytes (g := w.heap.size + 1 + 1) (a := .int .i64 k.height) (b := .int .i64 k.time) (c := .slice o2 k.root.length c2) (d := .slice o3 k.next.length c3) (HBY.out.2.below (HB1.out.mono hN)) (by omega)
    unfold set4 at u0 u1 u2 u3
    refine bodyPost_ret (v := .tuple #[.agg #[.int .i64 k.height, .int .i64 k.time, .slice o2 k.root.length c2, .slice o3 k.next.length c3], .bool true]) (by simp [results, Tryd.results90, go_sem, u0, u1, u2, u3]) rfl ⟨hbz, o2, c2, o3, c3, ?_⟩
    rw [knAt_some HAT.out, HAT.out]
    exact ⟨rfl, w2, w3⟩
set_option maxRecDepth 100000 in
set_option maxHeartbeats 4000000 in
theorem copiedKnown_any (k : Kn) (v : Value) (N : Nat) (w : World) (hv : KnV w N v k) (hN : N ≤ w.heap.size) (hf : k.fits) :
    Calls Tryd.prog 88 #[v] w fun e w' => Below w.heap.size w w' ∧ ∃ o1 c1 o2 c2, e = .returned (.agg #[.int .i64 k.height, .int .i64 k.time, .slice o1 k.root.length c1, .slice o2 k.next.length c2]) ∧ OwnB w' w.heap.size (.slice o1 k.root.length c1) k.root ∧ OwnB w' w.heap.size (.slice o2 k.next.length c2) k.next := by
  obtain ⟨rv, nv, rfl, h1, h2⟩ := hv
  obtain ⟨o1, c1, rfl, _⟩ := h1.shape
  obtain ⟨o2, c2, rfl, _⟩ := h2.shape
  obtain ⟨w0, hw0⟩ : ∃ w0, (w.alloc (.cells #[.int .i64 k.height, .int .i64 k.time, .slice o1 k.root.length c1, .slice o2 k.next.length c2] 73)).alloc (.cells #[.int .i64 0, .int .i64 0, .slice none 0 0, .slice none 0 0] 73) = w0 := ⟨_, rfl⟩
  have hb0 : Below w.heap.size w w0 := by rw [← hw0]; exact ((Below.refl _ _).alloc (Nat.le_refl _) _).alloc (by simp) _
  have hr0 : Row w0 w.heap.size 73 [.int .i64 k.height, .int .i64 k.time, .slice o1 k.root.length c1, .slice o2 k.next.length c2] := by rw [← hw0]; exact (Row.new _ _ _).alloc _
  have hr1 : Row w0 (w.heap.size + 1) 73 [.int .i64 0, .int .i64 0, .slice none 0 0, .slice none 0 0] := by
    rw [← hw0]
    have := Row.new (w.alloc (.cells #[.int .i64 k.height, .int .i64 k.time, .slice o1 k.root.length c1, .slice o2 k.next.length c2] 73)) 73 [.int .i64 0, .int .i64 0, .slice none 0 0, .slice none 0 0]
    simp only [World.size_alloc] at this
    exact this
  have HB0 := hid hb0
  have HR0 := hid hr0
  have HR1 := hid hr1
  have HCK := hid (show ∀ wx, Below w0.heap.size w0 wx → Calls Tryd.prog 93 #[.slice o1 k.root.length c1] wx fun e w' => Below wx.heap.size wx w' ∧ ∃ v, e = .returned v ∧ OwnB w' wx.heap.size v k.root from fun wx hx => cloneB_any k.root _ N wx (h1.below ((hb0.trans (hx.mono hb0.size)).mono hN)) hf.1)
  have HCV := hid (show ∀ wx, Below w0.heap.size w0 wx → Calls Tryd.prog 93 #[.slice o2 k.next.length c2] wx fun e w' => Below wx.heap.size wx w' ∧ ∃ v, e = .returned v ∧ OwnB w' wx.heap.size v k.next from fun wx hx => cloneB_any k.next _ N wx (h2.below ((hb0.trans (hx.mono hb0.size)).mono hN)) hf.2)
  have HRX := hid (show ∀ wx, Below w0.heap.size w0 wx → Row wx w.heap.size 73 [.int .i64 k.height, .int .i64 k.time, .slice o1 k.root.length c1, .slice o2 k.next.length c2] from fun wx hx => hr0.below hx hr0.lt)
  have HRY := hid (show ∀ wx, Below w0.heap.size w0 wx → Row wx (w.heap.size + 1) 73 [.int .i64 0, .int .i64 0, .slice none 0 0, .slice none 0 0] from fun wx hx => hr1.below hx hr1.lt)
  have HBD := hid (show Below w0.heap.size w0 w0.drew from (Below.refl _ _).drew)
  obtain ⟨⟨y0, y1, y2, y3⟩, z0, z1, z2, z3⟩ := hr0.four
  have HW0 := hid hw0
  clear h1 h2 hb0 hr0 hr1 hw0
  go_enter Tryd.func88, Tryd.ntmps88
  go_wp2_with fail
  rw [HW0.out]
  go_region_with (first
    | (go_at_call_of 93 (Value.slice o1 k.root.length c1); refine (HCK.out _ HBD.out).mono ?_; rintro e w6 ⟨hb6, v6, rfl, hown6⟩; obtain ⟨o6, c6, rfl, hc6⟩ := hown6.shape; have HB6 := hid (HBD.out.trans hb6); have HK6 := hid hown6; obtain ⟨⟨x0, x1, x2, x3⟩, _⟩ := (HRX.out _ HB6.out).four; clear hb6 hown6 hc6)
    | (go_at_call_of 93 (Value.slice o2 k.next.length c2); refine (HCV.out _ HB6.out).mono ?_; rintro e w7 ⟨hb7, v7, rfl, hown7⟩; obtain ⟨o7, c7, rfl, hc7⟩ := hown7.shape; have HB7 := hid (HB6.out.trans (hb7.mono HB6.out.size)); have HK7 := hid (show OwnB w7 w0.heap.size (.slice o6 k.root.length c6) k.root from ownsRow_belowR HK6.out hb7); have HV7 := hid hown7; have HR7 := hid (HRX.out w7 HB7.out); have HRR7 := hid (HRY.out w7 HB7.out); obtain ⟨⟨t0, t1, t2, t3⟩, s0, s1, s2, s3⟩ := HR7.out.four; clear hb7 hown7 hc7))
  all_goals
    obtain ⟨w8, hw8⟩ : ∃ w8, (w7.setCell ⟨w.heap.size, 2, none⟩ (.slice o6 k.root.length c6)).setCell ⟨w.heap.size, 3, none⟩ (.slice o7 k.next.length c7) = w8 := ⟨_, rfl⟩
    have hlt := HR1.out.lt
    have hr8 : Row w8 w.heap.size 73 [.int .i64 k.height, .int .i64 k.time, .slice o6 k.root.length c6, .slice o7 k.next.length c7] := by rw [← hw8]; exact (HR7.out.set 2 _).set 3 _
    have hz8 : Row w8 (w.heap.size + 1) 73 [.int .i64 0, .int .i64 0, .slice none 0 0, .slice none 0 0] := by rw [← hw8]; exact (HRR7.out.other _ (by simp)).other _ (by simp)
    have hb8 : Below w.heap.size w w8 := by rw [← hw8]; exact ((HB0.out.trans (HB7.out.mono HB0.out.size)).setCell (Nat.le_refl _) _).setCell (Nat.le_refl _) _
    have hot : ∀ g, w0.heap.size ≤ g → w8.heap[g]? = w7.heap[g]? := fun g hg => by rw [← hw8, heap_setCell_other _ _ _ _ (by simp only; omega), heap_setCell_other _ _ _ _ (by simp only; omega)]
    have HK8 := hid (HK7.out.keep hot)
    have HV8 := hid (HV7.out.keep (fun g hg => hot g (Nat.le_trans HB6.out.size hg)))
    have HZ8 := hid hz8
    have HB8 := hid hb8
    rw [hw8]
    obtain ⟨⟨p0, p1, p2, p3⟩, _⟩ := hr8.four
    obtain ⟨⟨q0, q1, q2, q3⟩, v0, v1, v2, v3⟩ := hz8.four
    clear hw8 hr8 hz8 hb8 hot
    go_wp2
    have hrz := set4_row HZ8.out (.int .i64 k.height) (.int .i64 k.time) (.slice o6 k.root.length c6) (.slice o7 k.next.length c7)
    obtain ⟨⟨u0, u1, u2, u3⟩, _⟩ := hrz.four
    have hbz := set4_below HB8.out (show w.heap.size ≤ w.heap.size + 1 by omega) (.int .i64 k.height) (.int .i64 k.time) (.slice o6 k.root.length c6) (.slice o7 k.next.length c7)
    have hoz := set4_other w8 (w.heap.size + 1) (.int .i64 k.height) (.int .i64 k.time) (.slice o6 k.root.length c6) (.slice o7 k.next.length c7)
    have hk := (HK8.out.keep (fun g hg => hoz g (by omega))).mono HB0.out.size
    have hv := (HV8.out.keep (fun g hg => hoz g (by have := HB6.out.size; omega))).mono (Nat.le_trans HB0.out.size HB6.out.size)
    unfold set4 at u0 u1 u2 u3
    exact bodyPost_ret (v := .agg #[.int .i64 k.height, .int .i64 k.time, .slice o6 k.root.length c6, .slice o7 k.next.length c7]) (by simp [results, Tryd.results88, go_sem, u0, u1, u2, u3]) rfl ⟨hbz, o6, c6, o7, c7, rfl, hk, hv⟩
set_option maxRecDepth 100000 in
set_option maxHeartbeats 4000000 in
theorem atC : AtC 40 := by
  intro c h v N w hv hN hfit
  have HFI := hid (show ∀ wx, Below w.heap.size w wx → _ from fun wx hx => findC c h v N wx (hv.below (hx.mono hN)) (Nat.le_trans hN hx.size) hfit)
  have HKF := hid (show (knAt c.known h).fits by
    cases e : atK c.known h with
    | none => rw [knAt_none e]; exact Kn.none_fits
    | some k => rw [knAt_some e]; exact hfit.2.2 k (atK_some e).1)
  obtain ⟨kv, rfl, hk⟩ := hv
  obtain ⟨oa, ca, rfl, hca⟩ := hk.shape
  clear hk hfit
  generalize knAt c.known h = k at *
  generalize (atK c.known h).isSome = bb at *
  generalize c.known.length = n at *
  obtain ⟨w0, hw0⟩ : ∃ w0, (w.alloc (.cells #[.string c.chain, .int .i64 c.trust, .bool c.frozen, .slice oa n ca] 59)).alloc (.cells #[.int .i64 0, .int .i64 0, .slice none 0 0, .slice none 0 0] 73) = w0 := ⟨_, rfl⟩
  have hb0 : Below w.heap.size w w0 := by rw [← hw0]; exact ((Below.refl _ _).alloc (Nat.le_refl _) _).alloc (by simp) _
  have hr0 : Row w0 w.heap.size 59 [.string c.chain, .int .i64 c.trust, .bool c.frozen, .slice oa n ca] := by rw [← hw0]; exact (Row.new _ _ _).alloc _
  have hr1 : Row w0 (w.heap.size + 1) 73 [.int .i64 0, .int .i64 0, .slice none 0 0, .slice none 0 0] := by
    rw [← hw0]
    have := Row.new (w.alloc (.cells #[.string c.chain, .int .i64 c.trust, .bool c.frozen, .slice oa n ca] 59)) 73 [.int .i64 0, .int .i64 0, .slice none 0 0, .slice none 0 0]
    simp only [World.size_alloc] at this
    exact this
  have HB0 := hid hb0
  have HR1 := hid hr1
  obtain ⟨⟨y0, y1, y2, y3⟩, _⟩ := hr0.four
  have HW0 := hid hw0
  clear hb0 hr0 hr1 hw0
  go_enter Tryd.func40, Tryd.ntmps40
  go_wp2_with fail
  rw [HW0.out]
  refine (HFI.out _ HB0.out).mono ?_
  rintro e w1 ⟨hb1, o1, c1, o2, c2, rfl, hx1, hx2⟩
  have HB1 := hid (HB0.out.trans (hb1.mono HB0.out.size))
  have HR11 := hid (HR1.out.below hb1 HR1.out.lt)
  obtain ⟨w2, hw2⟩ : ∃ w2, w1.alloc (.cells #[.int .i64 k.height, .int .i64 k.time, .slice o1 k.root.length c1, .slice o2 k.next.length c2] 73) = w2 := ⟨_, rfl⟩
  have hb2 : Below w1.heap.size w1 w2 := by rw [← hw2]; exact (Below.refl _ _).alloc (Nat.le_refl _) _
  have HB2 := hid (HB1.out.trans (hb2.mono HB1.out.size))
  have hr2 : Row w2 w1.heap.size 73 [.int .i64 k.height, .int .i64 k.time, .slice o1 k.root.length c1, .slice o2 k.next.length c2] := by rw [← hw2]; exact Row.new _ _ _
  have HR12 := hid (HR11.out.below hb2 HR11.out.lt)
  obtain ⟨⟨p0, p1, p2, p3⟩, _⟩ := hr2.four
  have HCK := hid (copiedKnown_any k (.agg #[.int .i64 k.height, .int .i64 k.time, .slice o1 k.root.length c1, .slice o2 k.next.length c2]) w1.heap.size w2 ⟨_, _, rfl, hx1.below hb2, hx2.below hb2⟩ hb2.size HKF.out)
  have HW2 := hid hw2
  clear hb1 hx1 hx2 hb2 hr2 hw2 y0 y1 y2 y3
  go_wp2_with fail
  rw [HW2.out]
  go_wp2_with fail
  refine HCK.out.mono ?_
  rintro e w3 ⟨hb3, o3, c3, o4, c4, rfl, hx3, hx4⟩
  have HB3 := hid (HB2.out.trans (hb3.mono HB2.out.size))
  have HR13 := hid (HR12.out.below hb3 HR12.out.lt)
  have HLT := hid HR12.out.lt
  have HX3 := hid hx3
  have HX4 := hid hx4
  obtain ⟨⟨q0, q1, q2, q3⟩, v0, v1, v2, v3⟩ := HR13.out.four
  clear hb3 hx3 hx4 p0 p1 p2 p3
  go_wp2
  have hrz := set4_row HR13.out (.int .i64 k.height) (.int .i64 k.time) (.slice o3 k.root.length c3) (.slice o4 k.next.length c4)
  obtain ⟨⟨u0, u1, u2, u3⟩, _⟩ := hrz.four
  have hbz := set4_below HB3.out (show w.heap.size ≤ w.heap.size + 1 by omega) (.int .i64 k.height) (.int .i64 k.time) (.slice o3 k.root.length c3) (.slice o4 k.next.length c4)
  have hoz := set4_other w3 (w.heap.size + 1) (.int .i64 k.height) (.int .i64 k.time) (.slice o3 k.root.length c3) (.slice o4 k.next.length c4)
  have hk := (HX3.out.keep (fun g hg => hoz g (by have := HLT.out; omega))).bytes
  have hv := (HX4.out.keep (fun g hg => hoz g (by have := HLT.out; omega))).bytes
  unfold set4 at u0 u1 u2 u3
  exact bodyPost_ret (v := .tuple #[.agg #[.int .i64 k.height, .int .i64 k.time, .slice o3 k.root.length c3, .slice o4 k.next.length c4], .bool bb]) (by simp [results, Tryd.results40, go_sem, u0, u1, u2, u3]) rfl ⟨hbz, o3, c3, o4, c4, rfl, hk, hv⟩
end Go.Proofs.YtfpngilmdgeikaaDoor
