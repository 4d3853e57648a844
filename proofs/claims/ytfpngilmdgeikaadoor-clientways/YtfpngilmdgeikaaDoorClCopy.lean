/-
  What package client's copied and New answer: a client in memory of its own; a new one.
-/
import Derived.Test.YtfpngilmdgeikaaDoorClAsk
namespace Go.Proofs.YtfpngilmdgeikaaDoor
open Go.RowKit

/-- nothing known, as cells -/
def zKn : List Value := [.int .i64 0, .int .i64 0, .slice none 0 0, .slice none 0 0]
theorem make_known (n : Nat) (w : World) (h : n ≤ 1000) : (Instr.makeSlice 57 (.int .i64 (n : Int)) (.int .i64 (n : Int))).run Tryd.prog w = .ok (.slice (some ⟨w.heap.size, 0, none⟩) n n) (w.alloc (.cells (([] : List KnR).map knRow ++ List.replicate n zKn).flatten.toArray 73)) := by
  obtain ⟨i0, hi0, hz0, hz1, hz2⟩ := info_parts infoKn
  have := run_make (P := Tryd.prog) w 57 73 i0 _ Tryd.underlying57 hi0 hz0 .i64 .i64 (n : Int) (n : Int) (by omega) (by omega) (by rw [hz2]; omega) (by omega)
  have e := madeCells_rows (z := #[.int .i64 0, .int .i64 0, .slice none 0 0, .slice none 0 0]) (k := 4) rfl (by omega) n
  rw [this, hz1, List.map_nil, List.nil_append, show List.replicate n zKn = List.replicate n (#[.int .i64 0, .int .i64 0, .slice none 0 0, .slice none 0 0] : Array Value).toList from rfl, e]
  simp only [Int.toNat_natCast, Value.cells]
/-- what is copied so far: so many of its records, in a row of its own -/
def Copd (l : List Kn) (n G k : Nat) (wr : World) : Prop := ∃ ps : List KnR, ps.length = k ∧ ps.map (·.k) = l.take k ∧ Row wr G 73 (ps.map knRow ++ List.replicate (n - k) zKn).flatten ∧ ∀ q ∈ ps, OwnB wr (G + 1) q.r q.k.root ∧ OwnB wr (G + 1) q.n q.k.next
theorem Copd.below {l : List Kn} {n G k : Nat} {w w' : World} (h : Copd l n G k w) (hg : Below w.heap.size w w') : Copd l n G k w' := by
  obtain ⟨ps, h1, h2, h3, h4⟩ := h
  exact ⟨ps, h1, h2, h3.below hg h3.lt, fun q hq => ⟨ownsRow_belowR (h4 q hq).1 hg, ownsRow_belowR (h4 q hq).2 hg⟩⟩
theorem Copd.cells {l : List Kn} {n G k : Nat} {w : World} (h : Copd l n G k w) (hk : k < n) : w.cell? ⟨G, k * 4, none⟩ = some (.int .i64 0) ∧ w.cell? ⟨G, k * 4 + 1, none⟩ = some (.int .i64 0) ∧ w.cell? ⟨G, k * 4 + 2, none⟩ = some (.slice none 0 0) ∧ w.cell? ⟨G, k * 4 + 3, none⟩ = some (.slice none 0 0) ∧ ∀ j, w.frozen? ⟨G, j, none⟩ = false := by
  obtain ⟨ps, h1, h2, h3, h4⟩ := h
  have hget : (ps.map knRow ++ List.replicate (n - k) zKn)[k]? = some zKn := by
    rw [List.getElem?_append_right (by simp; omega), List.length_map, h1, Nat.sub_self, List.getElem?_replicate, if_pos (by omega)]
  have hlen : ∀ r ∈ ps.map knRow ++ List.replicate (n - k) zKn, r.length = 4 := fun r hr => by
    rcases List.mem_append.1 hr with hr | hr
    · exact knRow_len r hr
    · rw [List.eq_of_mem_replicate hr]; rfl
  have key : ∀ j, j < 4 → w.cell? ⟨G, k * 4 + j, none⟩ = zKn[j]? := fun j hj => by rw [h3.cell, flatten_get _ k j zKn hlen hget hj]
  exact ⟨key 0 (by omega), key 1 (by omega), key 2 (by omega), key 3 (by omega), fun j => h3.frozen j⟩
theorem Copd.keep {l : List Kn} {n G k : Nat} {w w' : World} (h : Copd l n G k w) (hk : ∀ g, G ≤ g → w'.heap[g]? = w.heap[g]?) : Copd l n G k w' := by
  obtain ⟨ps, h1, h2, h3, h4⟩ := h
  refine ⟨ps, h1, h2, ?_, fun q hq => ⟨(h4 q hq).1.keep (fun g hg => hk g (by omega)), (h4 q hq).2.keep (fun g hg => hk g (by omega))⟩⟩
  unfold Row at *
  rw [hk G (Nat.le_refl _), h3]
/-- one more is written -/
theorem Copd.next {l : List Kn} {n G k : Nat} {w : World} {x : Kn} {rv nv : Value} (h : Copd l n G k w) (hx : l[k]? = some x) (hk : k < n) (h1 : OwnB w (G + 1) rv x.root) (h2 : OwnB w (G + 1) nv x.next) :
    Copd l n G (k + 1) (w.setCells G (k * 4) [.int .i64 x.height, .int .i64 x.time, rv, nv]) := by
  obtain ⟨ps, g1, g2, g3, g4⟩ := h
  have hgr := grown_setCells G [.int .i64 x.height, .int .i64 x.time, rv, nv] (k * 4) w
  have keep : ∀ {v : Value} {b : List (BitVec 8)}, OwnB w (G + 1) v b → OwnB (w.setCells G (k * 4) [.int .i64 x.height, .int .i64 x.time, rv, nv]) (G + 1) v b := fun {v b} ho => by
    obtain ⟨e1, e2⟩ := ho
    refine ⟨e1, ?_⟩
    rcases e2 with e2 | ⟨g, cap, cur, e3, e4, e5, e6⟩
    · exact .inl e2
    · exact .inr ⟨g, cap, cur, e3, e4, (hgr.block g (Array.getElem?_eq_some_iff.1 e5).1 (by simp; omega)).trans e5, e6⟩
  refine ⟨ps ++ [⟨x, rv, nv⟩], by simp [g1], ?_, ?_, fun q hq => ?_⟩
  · obtain ⟨hl, rfl⟩ := List.getElem?_eq_some_iff.1 hx
    rw [List.map_append, g2, List.take_succ_eq_append_getElem hl]
    rfl
  · have hlen : (ps.map knRow ++ List.replicate (n - k) zKn).flatten.length = n * 4 := by
      rw [flat_lenR (k := 4)]
      · simp [g1]; omega
      · intro r hr
        rcases List.mem_append.1 hr with hr | hr
        · exact knRow_len r hr
        · rw [List.eq_of_mem_replicate hr]; rfl
    have := Row.setCells [.int .i64 x.height, .int .i64 x.time, rv, nv] (k * 4) w _ g3 (by rw [hlen]; simp; omega)
    have e := putL_next (ps := ps.map knRow) (k := 4) (m := n - (k + 1)) (z := zKn) (r := [.int .i64 x.height, .int .i64 x.time, rv, nv]) knRow_len rfl rfl
    rw [List.length_map, g1, show n - (k + 1) + 1 = n - k by omega] at e
    rw [e] at this
    rw [List.map_append]
    exact this
  · rcases List.mem_append.1 hq with hq | hq
    · exact ⟨keep (g4 q hq).1, keep (g4 q hq).2⟩
    · obtain rfl : q = ⟨x, rv, nv⟩ := by simpa using hq
      exact ⟨keep h1, keep h2⟩
/-- all of it -/
theorem Copd.all {l : List Kn} {n G base : Nat} {w : World} (h : Copd l n G n w) (hn : l.length = n) (hm : n ≤ 1000) (hb : base ≤ G) : ∃ ps, OwnKn w base (.slice (some ⟨G, 0, none⟩) n n) ps ∧ ps.map (·.k) = l := by
  obtain ⟨ps, g1, g2, g3, g4⟩ := h
  rw [Nat.sub_self, List.replicate_zero, List.append_nil] at g3
  have hok : ∀ r ∈ ps.map knRow, okKn r := fun r hr => by
    obtain ⟨q, hq, rfl⟩ := List.mem_map.1 hr
    exact KnR.ok.row (w := w) (N := w.heap.size) ⟨(g4 q hq).1.bytes, (g4 q hq).2.bytes⟩
  have hfl := flatKn_len hok
  rw [List.length_map, g1] at hfl
  refine ⟨ps, ⟨RowKn.of_row hok hb g3 (by simp [g1]) (Nat.le_refl _) (by unfold maxLen; omega) hfl (by rw [← hfl, List.take_length]), fun q hq => ⟨(g4 q hq).1.mono (by omega), (g4 q hq).2.mono (by omega)⟩⟩, ?_⟩
  rw [g2, List.take_of_length_le (by omega)]
set_option maxRecDepth 100000 in
set_option maxHeartbeats 4000000 in
theorem copiedCl_any (c : Cl) (v : Value) (N : Nat) (w : World) (hv : ClV w N v c) (hN : N ≤ w.heap.size) (hfit : c.fits) (h30 : c.known.length ≤ 1000) :
    Calls Tryd.prog 87 #[v] w fun e w' => Below w.heap.size w w' ∧ ∃ o m ps, e = .returned (.agg #[.string c.chain, .int .i64 c.trust, .bool c.frozen, .slice o ps.length m]) ∧ OwnKn w' w.heap.size (.slice o ps.length m) ps ∧ ps.map (·.k) = c.known := by
  obtain ⟨kv, rfl, hk⟩ := hv
  obtain ⟨oa, ca, rfl, hca⟩ := hk.shape
  have HK := hid hk
  have HFT := hid hfit.2.2
  clear hk hfit
  obtain ⟨w0, hw0⟩ : ∃ w0, (w.alloc (.cells #[.string c.chain, .int .i64 c.trust, .bool c.frozen, .slice oa c.known.length ca] 59)).alloc (.cells #[.string ⟨#[]⟩, .int .i64 0, .bool false, .slice none 0 0] 59) = w0 := ⟨_, rfl⟩
  have hsz0 : w0.heap.size = w.heap.size + 1 + 1 := by rw [← hw0]; simp
  have hb0 : Below w.heap.size w w0 := by rw [← hw0]; exact ((Below.refl _ _).alloc (Nat.le_refl _) _).alloc (by simp) _
  have hr0 : Row w0 w.heap.size 59 [.string c.chain, .int .i64 c.trust, .bool c.frozen, .slice oa c.known.length ca] := by rw [← hw0]; exact (Row.new _ _ _).alloc _
  have hr1 : Row w0 (w.heap.size + 1) 59 [.string ⟨#[]⟩, .int .i64 0, .bool false, .slice none 0 0] := by
    rw [← hw0]
    have := Row.new (w.alloc (.cells #[.string c.chain, .int .i64 c.trust, .bool c.frozen, .slice oa c.known.length ca] 59)) 59 [.string ⟨#[]⟩, .int .i64 0, .bool false, .slice none 0 0]
    simp only [World.size_alloc] at this
    exact this
  have HN := hid (show c.known.length = c.known.length from rfl)
  generalize hl : c.known = l at *
  have HL := hid hl
  clear hl
  generalize hnn : l.length = n at *
  have HNN := hid hnn
  clear hnn HN
  have hmk := make_known n w0 h30
  obtain ⟨w1, hw1⟩ : ∃ w1, w0.alloc (.cells (([] : List KnR).map knRow ++ List.replicate n zKn).flatten.toArray 73) = w1 := ⟨_, rfl⟩
  rw [hw1, hsz0] at hmk
  have hb1 : Below w0.heap.size w0 w1 := by rw [← hw1]; exact (Below.refl _ _).alloc (Nat.le_refl _) _
  have HC1 := hid (show Copd l n (w.heap.size + 1 + 1) 0 w1 from ⟨[], rfl, rfl, by rw [← hw1, ← hsz0, Nat.sub_zero]; exact Row.new _ _ _, fun q hq => by cases hq⟩)
  have HB1 := hid (hb0.trans (hb1.mono hb0.size))
  have HR0 := hid (hr0.below hb1 hr0.lt)
  have HR1 := hid (hr1.below hb1 hr1.lt)
  have HQ0 := hid hr0
  obtain ⟨⟨y0, y1, y2, y3⟩, _⟩ := hr0.four
  obtain ⟨⟨x0, x1, x2, x3⟩, _⟩ := HR0.out.four
  have HW0 := hid hw0
  have HSZ1 := hid (show w1.heap.size = w.heap.size + 1 + 1 + 1 by rw [← hw1]; simp [hsz0])
  clear hw0 hb0 hr0 hr1 hw1 hb1 hsz0
  go_enter Tryd.func87, Tryd.ntmps87
  go_wp2_with fail
  rw [HW0.out, hmk]
  go_wp2_with fail
  go_loopw [4, 5, 13] (fun _ _ i wr => ∃ k : Nat, k ≤ n ∧ i = .int .i64 (k : Int) ∧ Hid (Below w1.heap.size w1 wr ∨ True) ∧ Hid (Copd l n (w.heap.size + 1 + 1) k wr ∧ Row wr w.heap.size 59 [.string c.chain, .int .i64 c.trust, .bool c.frozen, .slice oa n ca] ∧ Row wr (w.heap.size + 1) 59 [.string ⟨#[]⟩, .int .i64 0, .bool false, .slice none 0 0] ∧ Below w.heap.size w wr)) (fun _ _ i _ => n - (intOf i).toNat)
  case atStart => exact ⟨0, by omega, rfl, hid (.inr trivial), hid ⟨HC1.out, HR0.out, HR1.out, HB1.out⟩⟩
  case round =>
    obtain ⟨k, hk, rfl, _, HT⟩ := hrel
    have hszr := HT.out.2.2.2.size
    have HCD := hid HT.out.1
    have HRA := hid HT.out.2.1
    have HRB := hid HT.out.2.2.1
    have HBR := hid HT.out.2.2.2
    have hlt1 := HRB.out.lt
    have HGL := hid (show w.heap.size + 1 + 1 < wr.heap.size by obtain ⟨_, _, _, h, _⟩ := HCD.out; exact h.lt)
    by_cases hlt : k < n
    · obtain ⟨x, hx⟩ : ∃ x, l[k]? = some x := ⟨l[k]'(by rw [HNN.out]; exact hlt), List.getElem?_eq_getElem _⟩
      obtain ⟨b, o, rfl, hcells⟩ := HK.out.spot (by omega)
      obtain ⟨hbN, vr, vn, d0, d1, d2, d3, b2, b3⟩ := hcells k x hx
      obtain ⟨o2, c2, rfl, _⟩ := b2.shape
      obtain ⟨o3, c3, rfl, _⟩ := b3.shape
      have hbl : b < w.heap.size := by omega
      have f0 := (HBR.out.cell (p := ⟨b, o + k * 4, none⟩) hbl).trans d0
      have f1 := (HBR.out.cell (p := ⟨b, o + k * 4 + 1, none⟩) hbl).trans d1
      have f2 := (HBR.out.cell (p := ⟨b, o + k * 4 + 2, none⟩) hbl).trans d2
      have f3 := (HBR.out.cell (p := ⟨b, o + k * 4 + 3, none⟩) hbl).trans d3
      have hlt' : (k : Int) < (n : Int) := by omega
      obtain ⟨w2, hw2⟩ : ∃ w2, wr.alloc (.cells #[.int .i64 x.height, .int .i64 x.time, .slice o2 x.root.length c2, .slice o3 x.next.length c3] 73) = w2 := ⟨_, rfl⟩
      have hb2 : Below wr.heap.size wr w2 := by rw [← hw2]; exact (Below.refl _ _).alloc (Nat.le_refl _) _
      have hr2 : Row w2 wr.heap.size 73 [.int .i64 x.height, .int .i64 x.time, .slice o2 x.root.length c2, .slice o3 x.next.length c3] := by rw [← hw2]; exact Row.new _ _ _
      obtain ⟨⟨q0, q1, q2, q3⟩, _⟩ := hr2.four
      have HB2 := hid (HBR.out.trans (hb2.mono HBR.out.size))
      have HCP := hid (copiedKnown_any x (.agg #[.int .i64 x.height, .int .i64 x.time, .slice o2 x.root.length c2, .slice o3 x.next.length c3]) N w2 ⟨_, _, rfl, b2.below (HB2.out.mono hN), b3.below (HB2.out.mono hN)⟩ (Nat.le_trans hN HB2.out.size) (HFT.out x (List.mem_of_getElem? hx)))
      have HQ2 := hid hb2
      have HW2 := hid hw2
      have HX := hid hx
      clear hcells d0 d1 d2 d3 b2 b3 hb2 hr2 hw2 hx HT
      go_wp2_with fail
      rw [HW2.out]
      go_wp2_with fail
      refine HCP.out.mono ?_
      rintro e w3 ⟨hb3, o4, c4, o5, c5, rfl, hx4, hx5⟩
      have HQ3 := hid (HQ2.out.trans (hb3.mono HQ2.out.size))
      have HB3 := hid (HB2.out.trans (hb3.mono HB2.out.size))
      have HCD3 := hid (HCD.out.below HQ3.out)
      have HRA3 := hid (HRA.out.below HQ3.out HRA.out.lt)
      have HRB3 := hid (HRB.out.below HQ3.out HRB.out.lt)
      have HO4 := hid (hx4.mono (show w.heap.size + 1 + 1 + 1 ≤ w2.heap.size by have := HQ2.out.size; have := HGL.out; omega))
      have HO5 := hid (hx5.mono (show w.heap.size + 1 + 1 + 1 ≤ w2.heap.size by have := HQ2.out.size; have := HGL.out; omega))
      obtain ⟨t0, t1, t2, t3, tz⟩ := HCD3.out.cells hlt
      have z0 := tz (k * 4)
      have z1 := tz (k * 4 + 1)
      have z2 := tz (k * 4 + 2)
      have z3 := tz (k * 4 + 3)
      clear hb3 hx4 hx5 tz q0 q1 q2 q3 f0 f1 f2 f3
      go_wp2
      go_roundw
      case rel =>
        refine ⟨k + 1, by omega, by go_num, hid (.inr trivial), hid ⟨HCD3.out.next HX.out hlt HO4.out HO5.out, ?_, ?_, ?_⟩⟩
        · exact (((HRA3.out.other _ (by simp only; omega)).other _ (by simp only; omega)).other _ (by simp only; omega)).other _ (by simp only; omega)
        · exact (((HRB3.out.other _ (by simp only; omega)).other _ (by simp only; omega)).other _ (by simp only; omega)).other _ (by simp only; omega)
        · have hge : w.heap.size ≤ w.heap.size + 1 + 1 := by omega
          exact (((HB3.out.setCell hge _).setCell hge _).setCell hge _).setCell hge _
      case measure => simp [intOf]; omega
    · have hge : decide ((k : Int) < (n : Int)) = false := by simp; omega
      obtain rfl : k = n := by omega
      obtain ⟨⟨p0, p1, p2, p3⟩, e0, e1, e2, e3⟩ := HRA.out.four
      obtain ⟨⟨r0, r1, r2, r3⟩, g0, g1, g2, g3⟩ := HRB.out.four
      clear HT x0 x1 x2 x3 y0 y1 y2 y3
      go_wp2_with fail
      have hrz := set4_row (HRB.out.other (a := ⟨w.heap.size, 3, none⟩) (.slice (some ⟨w.heap.size + 1 + 1, 0, none⟩) k k) (by simp only; omega)) (.string c.chain) (.int .i64 c.trust) (.bool c.frozen) (.slice (some ⟨w.heap.size + 1 + 1, 0, none⟩) k k)
      obtain ⟨⟨u0, u1, u2, u3⟩, _⟩ := hrz.four
      have hbz := set4_below (HBR.out.setCell (p := ⟨w.heap.size, 3, none⟩) (Nat.le_refl _) (.slice (some ⟨w.heap.size + 1 + 1, 0, none⟩) k k)) (show w.heap.size ≤ w.heap.size + 1 by omega) (.string c.chain) (.int .i64 c.trust) (.bool c.frozen) (.slice (some ⟨w.heap.size + 1 + 1, 0, none⟩) k k)
      have hoz := set4_other (wr.setCell ⟨w.heap.size, 3, none⟩ (.slice (some ⟨w.heap.size + 1 + 1, 0, none⟩) k k)) (w.heap.size + 1) (.string c.chain) (.int .i64 c.trust) (.bool c.frozen) (.slice (some ⟨w.heap.size + 1 + 1, 0, none⟩) k k)
      obtain ⟨ps, hown, hps⟩ := (HCD.out.keep (fun g hg => (hoz g (by omega)).trans (heap_setCell_other _ _ _ _ (by simp only; omega)))).all HNN.out h30 (show w.heap.size ≤ w.heap.size + 1 + 1 by omega)
      have hpl : ps.length = k := by have := congrArg List.length hps; rw [List.length_map, HNN.out] at this; exact this
      unfold set4 at u0 u1 u2 u3
      refine bodyPost_ret (v := .agg #[.string c.chain, .int .i64 c.trust, .bool c.frozen, .slice (some ⟨w.heap.size + 1 + 1, 0, none⟩) k k]) (by simp [results, Tryd.results87, go_sem, u0, u1, u2, u3]) rfl ⟨hbz, some ⟨w.heap.size + 1 + 1, 0, none⟩, k, ps, ?_⟩
      rw [hpl]
      exact ⟨rfl, hown, hps⟩
/-- what New is to answer -/
def NewC (f : FuncId) : Prop := ∀ (ch : ByteArray) (tr : Int) (k : Kn) (v : Value) (N : Nat) (w : World), KnV w N v k → N ≤ w.heap.size → ch.size ≤ 140737488351232 → k.fits →
  Calls Tryd.prog f #[.string ch, .int .i64 tr, v] w fun e w' => Below w.heap.size w w' ∧ ∃ o n m, e = .returned (.tuple #[.agg #[.string (newR ch tr k).chain, .int .i64 (newR ch tr k).trust, .bool (newR ch tr k).frozen, .slice o n m], .int .i64 (wrongCl (newC ch tr k))]) ∧ Knowns w' w'.heap.size (.slice o n m) (newR ch tr k).known
set_option maxRecDepth 100000 in
set_option maxHeartbeats 4000000 in
theorem clNewC : NewC 81 := by
  intro ch tr k v N w hv hN hch hf
  obtain ⟨rv, nv, rfl, g1, g2⟩ := hv
  obtain ⟨o1, c1, rfl, _⟩ := g1.shape
  obtain ⟨o2, c2, rfl, _⟩ := g2.shape
  obtain ⟨w0, hw0⟩ : ∃ w0, (w.alloc (.cells #[.int .i64 k.height, .int .i64 k.time, .slice o1 k.root.length c1, .slice o2 k.next.length c2] 73)).alloc (.cells #[.string ⟨#[]⟩, .int .i64 0, .bool false, .slice none 0 0] 59) = w0 := ⟨_, rfl⟩
  have hsz0 : w0.heap.size = w.heap.size + 1 + 1 := by rw [← hw0]; simp
  have hb0 : Below w.heap.size w w0 := by rw [← hw0]; exact ((Below.refl _ _).alloc (Nat.le_refl _) _).alloc (by simp) _
  have hr0 : Row w0 w.heap.size 73 [.int .i64 k.height, .int .i64 k.time, .slice o1 k.root.length c1, .slice o2 k.next.length c2] := by rw [← hw0]; exact (Row.new _ _ _).alloc _
  have hr1 : Row w0 (w.heap.size + 1) 59 [.string ⟨#[]⟩, .int .i64 0, .bool false, .slice none 0 0] := by
    rw [← hw0]
    have := Row.new (w.alloc (.cells #[.int .i64 k.height, .int .i64 k.time, .slice o1 k.root.length c1, .slice o2 k.next.length c2] 73)) 59 [.string ⟨#[]⟩, .int .i64 0, .bool false, .slice none 0 0]
    simp only [World.size_alloc] at this
    exact this
  obtain ⟨⟨y0, y1, y2, y3⟩, _⟩ := hr0.four
  have HW0 := hid hw0
  obtain ⟨w1, hw1⟩ : ∃ w1, (w0.alloc (.cells #[.int .i64 k.height, .int .i64 k.time, .slice o1 k.root.length c1, .slice o2 k.next.length c2] 73)).alloc (.cells #[.string ch, .int .i64 tr, .bool false, .slice (some ⟨w.heap.size + 1 + 1, 0, none⟩) 1 1] 59) = w1 := ⟨_, rfl⟩
  have hb1 : Below w0.heap.size w0 w1 := by rw [← hw1]; exact ((Below.refl _ _).alloc (Nat.le_refl _) _).alloc (by simp) _
  have hbw1 : Below w.heap.size w w1 := hb0.trans (hb1.mono hb0.size)
  have hra : Row w1 (w.heap.size + 1 + 1) 73 [.int .i64 k.height, .int .i64 k.time, .slice o1 k.root.length c1, .slice o2 k.next.length c2] := by rw [← hw1]; exact (Row.newAt _ _ _ _ hsz0.symm).alloc _
  have hrb : Row w1 (w.heap.size + 1 + 1 + 1) 59 [.string ch, .int .i64 tr, .bool false, .slice (some ⟨w.heap.size + 1 + 1, 0, none⟩) 1 1] := by rw [← hw1]; exact Row.newAt _ _ _ _ (by simp [hsz0])
  have hkn : Knowns w1 w1.heap.size (.slice (some ⟨w.heap.size + 1 + 1, 0, none⟩) 1 1) [k] := ⟨[⟨k, .slice o1 k.root.length c1, .slice o2 k.next.length c2⟩], rfl, (oneKn hra).mono hra.lt, fun q hq => by
    obtain rfl : q = ⟨k, .slice o1 k.root.length c1, .slice o2 k.next.length c2⟩ := by simpa using hq
    exact ⟨(g1.below (hbw1.mono hN)).mono (Nat.le_trans hN hbw1.size), (g2.below (hbw1.mono hN)).mono (Nat.le_trans hN hbw1.size)⟩⟩
  have hfit : (newC ch tr k).fits := ⟨hch, by simp [newC], fun x hx => by obtain rfl : x = k := by simpa [newC] using hx
                                                                          exact hf⟩
  have HWR := hid (clWrongC (newC ch tr k) (.agg #[.string ch, .int .i64 tr, .bool false, .slice (some ⟨w.heap.size + 1 + 1, 0, none⟩) 1 1]) w1.heap.size w1 ⟨_, rfl, hkn⟩ (Nat.le_refl _) hfit)
  have HCP := hid (show ∀ wx, Below w1.heap.size w1 wx → _ from fun wx hx => copiedCl_any (newC ch tr k) (.agg #[.string ch, .int .i64 tr, .bool false, .slice (some ⟨w.heap.size + 1 + 1, 0, none⟩) 1 1]) w1.heap.size wx ⟨_, rfl, hkn.below hx⟩ hx.size hfit (by simp [newC]))
  have HBW1 := hid hbw1
  have HRB := hid hrb
  have HR1 := hid (hr1.below hb1 hr1.lt)
  have HW1 := hid hw1
  obtain ⟨⟨b0, b1, b2, b3⟩, _⟩ := hrb.four
  clear hw0 hw1 hb0 hb1 hr0 hr1 hbw1 hra hrb hkn hfit g1 g2 hsz0
  by_cases hc : wrongCl (newC ch tr k) = 0
  · have HNR := hid (show newR ch tr k = newC ch tr k by unfold newR; rw [if_pos hc])
    have HCZ := hid hc
    clear hc
    go_enter Tryd.func81, Tryd.ntmps81
    go_wp2_with fail
    rw [HW0.out, HW1.out]
    refine HWR.out.mono ?_
    rintro e w2 ⟨rfl, hb2⟩
    rw [HCZ.out]
    have HB2 := hid (HBW1.out.trans (hb2.mono HBW1.out.size))
    have HR2 := hid (HR1.out.below hb2 HR1.out.lt)
    have HQ2 := hid hb2
    obtain ⟨⟨d0, d1, d2, d3⟩, _⟩ := (HRB.out.below hb2 HRB.out.lt).four
    clear hb2 b0 b1 b2 b3 y0 y1 y2 y3
    go_wp2_with fail
    refine (HCP.out _ HQ2.out).mono ?_
    rintro e w3 ⟨hb3, o, m, ps, rfl, hown, hps⟩
    have HB3 := hid (HB2.out.trans (hb3.mono HB2.out.size))
    have HR3 := hid (HR2.out.below hb3 HR2.out.lt)
    have HLT := hid HR2.out.lt
    have HO := hid hown
    have HPS := hid hps
    generalize hpl : ps.length = n at *
    obtain ⟨⟨x0, x1, x2, x3⟩, z0, z1, z2, z3⟩ := HR3.out.four
    clear hb3 hown hps d0 d1 d2 d3 hpl
    go_wp2
    have hrz := set4_row HR3.out (.string (newC ch tr k).chain) (.int .i64 (newC ch tr k).trust) (.bool (newC ch tr k).frozen) (.slice o n m)
    obtain ⟨⟨u0, u1, u2, u3⟩, _⟩ := hrz.four
    have hbz := set4_below HB3.out (show w.heap.size ≤ w.heap.size + 1 by omega) (.string (newC ch tr k).chain) (.int .i64 (newC ch tr k).trust) (.bool (newC ch tr k).frozen) (.slice o n m)
    have hoz := set4_other w3 (w.heap.size + 1) (.string (newC ch tr k).chain) (.int .i64 (newC ch tr k).trust) (.bool (newC ch tr k).frozen) (.slice o n m)
    have hkz := (HO.out.keep (fun g hg => hoz g (by have := HLT.out; omega))).knowns
    rw [HPS.out] at hkz
    unfold set4 at u0 u1 u2 u3
    refine bodyPost_ret (v := .tuple #[.agg #[.string (newC ch tr k).chain, .int .i64 (newC ch tr k).trust, .bool (newC ch tr k).frozen, .slice o n m], .int .i64 0]) (by simp [results, Tryd.results81, go_sem, u0, u1, u2, u3]) rfl ⟨hbz, o, n, m, ?_⟩
    rw [HNR.out, HCZ.out]
    exact ⟨rfl, hkz⟩
  · have HNR := hid (show newR ch tr k = Cl.none by unfold newR; rw [if_neg hc])
    have e1 : (wrongCl (newC ch tr k) != 0) = true := by simpa using hc
    clear hc
    generalize wrongCl (newC ch tr k) = z at *
    go_enter Tryd.func81, Tryd.ntmps81
    go_wp2_with fail
    rw [HW0.out, HW1.out]
    refine HWR.out.mono ?_
    rintro e w2 ⟨rfl, hb2⟩
    have HB2 := hid (HBW1.out.trans (hb2.mono HBW1.out.size))
    have HR2 := hid (HR1.out.below hb2 HR1.out.lt)
    obtain ⟨⟨x0, x1, x2, x3⟩, z0, z1, z2, z3⟩ := HR2.out.four
    clear hb2 b0 b1 b2 b3 y0 y1 y2 y3
    go_wp2
    have hrz := set4_row HR2.out (.string ⟨#[]⟩) (.int .i64 0) (.bool false) (.slice none 0 0)
    obtain ⟨⟨u0, u1, u2, u3⟩, _⟩ := hrz.four
    have hbz := set4_below HB2.out (show w.heap.size ≤ w.heap.size + 1 by omega) (.string ⟨#[]⟩) (.int .i64 0) (.bool false) (.slice none 0 0)
    unfold set4 at u0 u1 u2 u3
    refine bodyPost_ret (v := .tuple #[.agg #[.string ⟨#[]⟩, .int .i64 0, .bool false, .slice none 0 0], .int .i64 z]) (by simp [results, Tryd.results81, go_sem, u0, u1, u2, u3]) rfl ⟨hbz, none, 0, 0, ?_⟩
    rw [HNR.out]
    exact ⟨rfl, Knowns.nil _ _⟩
end Go.Proofs.YtfpngilmdgeikaaDoor
