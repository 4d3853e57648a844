/-
  What package state's Book answers.
-/
import Derived.Test.YtooemgkjkngpcaaGreatDoorTaBookDo
import Derived.Test.YtooemgkjkngpcaaGreatDoorTaStWrong
import Derived.Test.YtooemgkjkngpcaaGreatDoorTaStEnts
import Derived.Test.YtooemgkjkngpcaaGreatDoorTaBookWrong
import Derived.BigQuiet
namespace Go.Proofs.YtooemgkjkngpcaaGreatDoor
open Go.RowKit

theorem OwnPr.mono {w : World} {base base' : Nat} {v : Value} {ps : List PrV} (h : OwnPr w base v ps) (hb : base' ≤ base) : OwnPr w base' v ps := ⟨h.1.mono hb, fun q hq => ⟨(h.2 q hq).1.mono hb, (h.2 q hq).2.mono hb⟩⟩
set_option maxRecDepth 100000 in
set_option maxHeartbeats 2000000 in
theorem playO (l : List Dg) (sv : Value) (N : Nat) (w : World) (hb : Doings w N sv l) (hN : N ≤ w.heap.size) (hlen : l.length < 2305843009213693952) :
    Calls Tryz.prog 47 #[sv] w fun e w' => Below w.heap.size w w' ∧ ∃ v, e = .returned (.tuple #[v, faultV (pcode l).1 (pcode l).2]) ∧ ∃ ps, OwnPr w' w.heap.size v ps ∧ ps.map (·.p) = pout l := by
  obtain ⟨oa, ca, rfl, hca⟩ := hb.shape
  obtain ⟨w0, hw0⟩ : ∃ w0, w.alloc (.cells #[.int .i64 0, .int .i64 0] 96) = w0 := ⟨_, rfl⟩
  have hsz0 : w0.heap.size = w.heap.size + 1 := by rw [← hw0]; simp
  have hb0 : Below w.heap.size w w0 := by rw [← hw0]; exact (Below.refl _ _).alloc (Nat.le_refl _) _
  have hrow0 : Row w0 w.heap.size 96 [.int .i64 0, .int .i64 0] := by rw [← hw0]; exact Row.new _ _ _
  have HB := hid (hb.below (hb0.mono hN))
  have HB0 := hid hb0
  have HR0 := hid hrow0
  clear hb hb0 hrow0
  generalize hn : l.length = n at *
  have HN := hid hn
  clear hn
  go_enter Tryz.func47, Tryz.ntmps47
  go_wp2_with fail
  clear hw0
  go_loopw [4, 10] (fun y i wr => ∃ (k : Nat) (ps : List PrV), k ≤ n ∧ ps.length ≤ 200 ∧ i = .int .i64 (k : Int) ∧ Hid (OwnPr wr w0.heap.size y ps ∧ Below w0.heap.size w0 wr ∧ Sorted (ps.map (·.p)) ∧ playL l = playGo k (ps.map (·.p)) (l.drop k))) (fun _ i _ => n - (intOf i).toNat)
  case atStart => exact ⟨0, [], by omega, by simp, rfl, OwnPr.nil _ _, Below.refl _ _, List.Pairwise.nil, rfl⟩
  case round =>
    obtain ⟨k, ps, hk, hps, rfl, HR⟩ := hrel
    obtain ⟨oy, cy, rfl, hcy⟩ := HR.out.1.1.shape
    have hszr := HR.out.2.1.size
    have hlt0 : w.heap.size < wr.heap.size := by omega
    have hne0 : w.heap.size ≠ wr.heap.size := by omega
    have hne1 : wr.heap.size ≠ w.heap.size := by omega
    by_cases hlt : k < n
    · obtain ⟨d, hd⟩ : ∃ d, l[k]? = some d := ⟨l[k]'(by rw [HN.out]; exact hlt), List.getElem?_eq_getElem _⟩
      obtain ⟨b, o, rfl, hcells⟩ := HB.out.some (by omega)
      obtain ⟨hbN, vk, vv, d0, d1, d2, hvk, hvv⟩ := hcells k d hd
      obtain ⟨o1, c1, rfl, hc1⟩ := hvk.shape
      obtain ⟨o2, c2, rfl, hc2⟩ := hvv.shape
      have hbl : b < w0.heap.size := by omega
      have f0 := (HR.out.2.1.cell (p := ⟨b, o + k * 3, none⟩) hbl).trans d0
      have f1 := (HR.out.2.1.cell (p := ⟨b, o + k * 3 + 1, none⟩) hbl).trans d1
      have f2 := (HR.out.2.1.cell (p := ⟨b, o + k * 3 + 2, none⟩) hbl).trans d2
      have HST := hid (play_step k (ps.map (·.p)) l d hd)
      obtain ⟨w2, hw2⟩ : ∃ w2, wr.alloc (.cells #[.slice o1 d.key.length c1, .slice o2 d.val.length c2, .bool d.gone] 140) = w2 := ⟨_, rfl⟩
      have hsz2 : w2.heap.size = wr.heap.size + 1 := by rw [← hw2]; simp
      have hbr2 : Below wr.heap.size wr w2 := by rw [← hw2]; exact (Below.refl _ _).alloc (Nat.le_refl _) _
      have hb2 : Below w0.heap.size w0 w2 := HR.out.2.1.trans (hbr2.mono hszr)
      have hrow2 : Row w2 wr.heap.size 140 [.slice o1 d.key.length c1, .slice o2 d.val.length c2, .bool d.gone] := by rw [← hw2]; exact Row.new _ _ _
      have q0 := hrow2.cell 0
      have q1 := hrow2.cell 1
      have q2 := hrow2.cell 2
      have HDO := hid (do_any ps d (.slice oy ps.length cy) (.slice o1 d.key.length c1) (.slice o2 d.val.length c2) w0.heap.size N w2 (HR.out.1.below hbr2) (by omega) (by omega) (hvk.below (hb2.mono (by omega))) (hvv.below (hb2.mono (by omega))) HR.out.2.2.1 hps)
      have HB2 := hid hb2
      have HW2 := hid hw2
      clear d0 d1 d2 hvk hvv hcells hb2 hbr2 hd hw2 hrow2
      have hlt' : (k : Int) < (n : Int) := by omega
      go_wp2_with fail
      rw [HW2.out]
      refine HDO.out.mono ?_
      rintro e w3 ⟨hb3, ⟨hm, rfl⟩ | ⟨hm, hmany, rfl⟩ | ⟨hm, hmany, v3, ps', rfl, hown3, hmap⟩⟩
      · have HB3 := hid (HB2.out.trans hb3)
        have HPL := hid (show playL l = .error (4, k) by rw [HR.out.2.2.2, HST.out, if_pos hm])
        have HRR := hid (HR0.out.below HB3.out (by omega))
        obtain ⟨c0, c1', z0, z1⟩ := HRR.out.two
        clear hb3 hm
        go_wp2
        obtain ⟨g0, g1⟩ := HRR.out.set2 (.int .i64 4) (.int .i64 (k : Int))
        refine bodyPost_ret (v := .tuple #[.slice none 0 0, faultV 4 k]) (by simp [results, Tryz.results47, go_sem, g0, g1, faultV]) rfl ⟨below_set2 (HB0.out.trans (HB3.out.mono (by omega))) (Nat.le_refl _) _ _, .slice none 0 0, ?_, [], OwnPr.nil _ _, ?_⟩
        · simp only [pcode, HPL.out]
        · simp only [pout, HPL.out]
          rfl
      · have HB3 := hid (HB2.out.trans hb3)
        have HPL := hid (show playL l = .error (5, k) by rw [HR.out.2.2.2, HST.out, if_neg hm, if_pos hmany])
        have HRR := hid (HR0.out.below HB3.out (by omega))
        obtain ⟨c0, c1', z0, z1⟩ := HRR.out.two
        clear hb3 hm hmany
        go_wp2
        obtain ⟨g0, g1⟩ := HRR.out.set2 (.int .i64 5) (.int .i64 (k : Int))
        refine bodyPost_ret (v := .tuple #[.slice none 0 0, faultV 5 k]) (by simp [results, Tryz.results47, go_sem, g0, g1, faultV]) rfl ⟨below_set2 (HB0.out.trans (HB3.out.mono (by omega))) (Nat.le_refl _) _ _, .slice none 0 0, ?_, [], OwnPr.nil _ _, ?_⟩
        · simp only [pcode, HPL.out]
        · simp only [pout, HPL.out]
          rfl
      · have HB3 := hid (HB2.out.trans hb3)
        have HPL := hid (show playL l = playGo (k + 1) (ps'.map (·.p)) (l.drop (k + 1)) by rw [HR.out.2.2.2, HST.out, if_neg hm, if_neg hmany, hmap])
        have HSO := hid (show Sorted (ps'.map (·.p)) by rw [hmap]; exact sorted_do _ _ HR.out.2.2.1)
        have HLE := hid (show ps'.length ≤ 200 by
          have e : ps'.length = (doOne d (ps.map (·.p))).length := by rw [← hmap, List.length_map]
          rw [e]
          cases hg : d.gone with
          | false => exact Nat.le_of_not_lt fun h => hmany ⟨hg, h⟩
          | true =>
            unfold doOne
            rw [if_pos hg]
            exact Nat.le_trans (List.length_filter_le _ _) (by simpa using hps))
        have HO3 := hid hown3
        clear hb3 hm hmany hmap hown3
        go_wp2_with fail
        refine ⟨⟨k + 1, ps', by omega, HLE.out, by go_num, HO3.out, HB3.out, HSO.out, HPL.out⟩, by simp [intOf]; omega⟩
    · have hge : decide ((k : Int) < (n : Int)) = false := by simp; omega
      have HRR := hid (HR0.out.below HR.out.2.1 (by omega))
      obtain ⟨c0, c1, z0, z1⟩ := HRR.out.two
      have HPL := hid (show playL l = .ok (ps.map (·.p)) by rw [HR.out.2.2.2, List.drop_eq_nil_of_le (by rw [HN.out]; omega), playGo])
      go_wp2
      obtain ⟨g0, g1⟩ := HRR.out.set2 (.int .i64 0) (.int .i64 0)
      have hbs : Below w.heap.size w0 ((wr.setCell ⟨w.heap.size, 0, none⟩ (.int .i64 0)).setCell ⟨w.heap.size, 1, none⟩ (.int .i64 0)) := below_set2 (HR.out.2.1.mono (by omega)) (Nat.le_refl _) _ _
      have hown : OwnPr ((wr.setCell ⟨w.heap.size, 0, none⟩ (.int .i64 0)).setCell ⟨w.heap.size, 1, none⟩ (.int .i64 0)) w0.heap.size (.slice oy ps.length cy) ps := by
        have hkeep : ∀ g, w0.heap.size ≤ g → ((wr.setCell ⟨w.heap.size, 0, none⟩ (.int .i64 0)).setCell ⟨w.heap.size, 1, none⟩ (.int .i64 0)).heap[g]? = wr.heap[g]? := fun g hg => by
          rw [heap_setCell_other _ _ _ _ (show g ≠ w.heap.size by omega), heap_setCell_other _ _ _ _ (show g ≠ w.heap.size by omega)]
        exact ⟨HR.out.1.1.keep hkeep, fun q hq => ⟨(HR.out.1.2 q hq).1.keep hkeep, (HR.out.1.2 q hq).2.keep hkeep⟩⟩
      refine bodyPost_ret (v := .tuple #[.slice oy ps.length cy, okV]) (by simp [results, Tryz.results47, go_sem, g0, g1, okV]) rfl ⟨HB0.out.trans hbs, .slice oy ps.length cy, ?_, ps, hown.mono (show w.heap.size ≤ w0.heap.size by omega), ?_⟩
      · simp only [pcode, HPL.out]
        rfl
      · simp only [pout, HPL.out]
/-- Play's answer -/
theorem playC : PlayC 47 := by
  intro l sv N w hb hN hlen _
  refine (playO l sv N w hb hN hlen).mono ?_
  rintro e w' ⟨h1, v, rfl, ps, h2, h3⟩
  obtain ⟨ov, cv, rfl, _⟩ := h2.1.shape
  refine ⟨h1, ov, _, cv, rfl, ?_⟩
  rw [← h3]
  exact h2.pairs
end Go.Proofs.YtooemgkjkngpcaaGreatDoor
namespace Go.Proofs.YtooemgkjkngpcaaGreatDoor
open Go.RowKit

/-- a state's book, if it is right -/
def bookR (s : St) : List Pr := if wrongS s = 0 then bookS s else []
theorem bookR_ok {s : St} (h : wrongS s = 0) : bookR s = bookS s := if_pos h
theorem bookR_no {s : St} (h : wrongS s ≠ 0) : bookR s = [] := if_neg h
theorem entries_fit {s : St} (h : Right s) : ∀ d ∈ entries s, d.fits := fun d hd => by
  have := entries_ok h d hd
  exact ⟨by have := this.1; omega, by have := this.2.1; omega⟩
theorem book_right {s : St} (h : Right s) : wrongL (bookS s) = (0, 0) := by
  obtain ⟨h1, h2, h3⟩ := book_of h
  have := playL_book _ _ h1
  exact wrongL_book _ this.1 this.2.1 this.2.2
theorem book_fit {s : St} (h : Right s) : ∀ p ∈ bookS s, p.fits := fun p hp => by
  have := (playL_book _ _ (book_of h).1).2.1 p hp
  exact ⟨by omega, by omega⟩
/-- what Book is to answer of a state -/
def StBookC (f : FuncId) : Prop := ∀ (s : St) (v : Value) (N : Nat) (w : World), StV w N v s → N ≤ w.heap.size → s.fits → powAt w →
  Calls Tryz.prog f #[v] w fun e w' => Below w.heap.size w w' ∧ ∃ o n c, e = .returned (.tuple #[.slice o n c, .int .i64 (wrongS s)]) ∧ Pairs w' w'.heap.size (.slice o n c) (bookR s)
set_option maxRecDepth 100000 in
set_option maxHeartbeats 4000000 in
theorem stBookC : StBookC 9 := by
  intro s v N w hv hN hfit hpow
  have HW1 := hid (show ∀ wx, Below w.heap.size w wx → _ from fun wx hx => stWrongC s v N wx (hv.below (hx.mono hN)) (Nat.le_trans hN hx.size) hfit)
  have HEN := hid (show Right s → ∀ wx, Below w.heap.size w wx → _ from fun hS wx hx => entries_any s v N wx (hv.below (hx.mono hN)) (Nat.le_trans hN hx.size) hS (hpow.below hx))
  obtain ⟨o1, c1, o2, c2, o3, c3, o4, c4, o5, c5, o6, c6, o7, c7, rfl, -⟩ := hv.open
  obtain ⟨w0, hw0⟩ : ∃ w0, w.alloc (.cells #[.string s.name, .int .i64 s.height, .int .i64 s.time, .slice o1 s.clients.length c1, .slice o2 s.conns.length c2, .slice o3 s.chans.length c3, .slice o4 s.sent.length c4, .slice o5 s.got.length c5, .slice o6 s.acks.length c6, .slice o7 s.purses.length c7] 28) = w0 := ⟨_, rfl⟩
  have HB0 := hid (show Below w.heap.size w w0 by rw [← hw0]; exact (Below.refl _ _).alloc (Nat.le_refl _) _)
  have HR0 := hid (show Row w0 w.heap.size 28 [.string s.name, .int .i64 s.height, .int .i64 s.time, .slice o1 s.clients.length c1, .slice o2 s.conns.length c2, .slice o3 s.chans.length c3, .slice o4 s.sent.length c4, .slice o5 s.got.length c5, .slice o6 s.acks.length c6, .slice o7 s.purses.length c7] by rw [← hw0]; exact Row.new _ _ _)
  have k0 : w0.cell? ⟨w.heap.size, 0, none⟩ = some (.string s.name) := HR0.out.cell 0
  have k1 : w0.cell? ⟨w.heap.size, 1, none⟩ = some (.int .i64 s.height) := HR0.out.cell 1
  have k2 : w0.cell? ⟨w.heap.size, 2, none⟩ = some (.int .i64 s.time) := HR0.out.cell 2
  have k3 : w0.cell? ⟨w.heap.size, 3, none⟩ = some (.slice o1 s.clients.length c1) := HR0.out.cell 3
  have k4 : w0.cell? ⟨w.heap.size, 4, none⟩ = some (.slice o2 s.conns.length c2) := HR0.out.cell 4
  have k5 : w0.cell? ⟨w.heap.size, 5, none⟩ = some (.slice o3 s.chans.length c3) := HR0.out.cell 5
  have k6 : w0.cell? ⟨w.heap.size, 6, none⟩ = some (.slice o4 s.sent.length c4) := HR0.out.cell 6
  have k7 : w0.cell? ⟨w.heap.size, 7, none⟩ = some (.slice o5 s.got.length c5) := HR0.out.cell 7
  have k8 : w0.cell? ⟨w.heap.size, 8, none⟩ = some (.slice o6 s.acks.length c6) := HR0.out.cell 8
  have k9 : w0.cell? ⟨w.heap.size, 9, none⟩ = some (.slice o7 s.purses.length c7) := HR0.out.cell 9
  have HW0 := hid hw0
  clear hv hpow hfit hw0
  go_enter Tryz.func9, Tryz.ntmps9
  go_upto_region 1 with fail
  rw [HW0.out]
  go_wp2_with fail
  refine (HW1.out _ HB0.out).mono ?_
  rintro e w1 ⟨rfl, hb1⟩
  have HB1 := hid (HB0.out.trans (hb1.mono HB0.out.size))
  have HR1 := hid (HR0.out.below hb1 HR0.out.lt)
  clear hb1 k0 k1 k2 k3 k4 k5 k6 k7 k8 k9
  by_cases hz : wrongS s = 0
  · have HZ := hid hz
    have HS := hid (wrongS_right hz)
    rw [HZ.out]
    clear hz
    have k0 : w1.cell? ⟨w.heap.size, 0, none⟩ = some (.string s.name) := HR1.out.cell 0
    have k1 : w1.cell? ⟨w.heap.size, 1, none⟩ = some (.int .i64 s.height) := HR1.out.cell 1
    have k2 : w1.cell? ⟨w.heap.size, 2, none⟩ = some (.int .i64 s.time) := HR1.out.cell 2
    have k3 : w1.cell? ⟨w.heap.size, 3, none⟩ = some (.slice o1 s.clients.length c1) := HR1.out.cell 3
    have k4 : w1.cell? ⟨w.heap.size, 4, none⟩ = some (.slice o2 s.conns.length c2) := HR1.out.cell 4
    have k5 : w1.cell? ⟨w.heap.size, 5, none⟩ = some (.slice o3 s.chans.length c3) := HR1.out.cell 5
    have k6 : w1.cell? ⟨w.heap.size, 6, none⟩ = some (.slice o4 s.sent.length c4) := HR1.out.cell 6
    have k7 : w1.cell? ⟨w.heap.size, 7, none⟩ = some (.slice o5 s.got.length c5) := HR1.out.cell 7
    have k8 : w1.cell? ⟨w.heap.size, 8, none⟩ = some (.slice o6 s.acks.length c6) := HR1.out.cell 8
    have k9 : w1.cell? ⟨w.heap.size, 9, none⟩ = some (.slice o7 s.purses.length c7) := HR1.out.cell 9
    go_wp2_with fail
    refine (HEN.out HS.out _ HB1.out).mono ?_
    rintro e w2 ⟨x, rfl, hdg, hb2⟩
    have HB2 := hid (HB1.out.trans (hb2.mono HB1.out.size))
    have HPL := hid (playC (entries s) x w2.heap.size w2 hdg (Nat.le_refl _) (by rw [entries_len]; have := HS.out.many; omega) (entries_fit HS.out))
    clear hdg hb2 k0 k1 k2 k3 k4 k5 k6 k7 k8 k9
    go_wp2_with fail
    refine HPL.out.mono ?_
    rintro e w3 ⟨hb3, ov, nv, cv, rfl, hpr⟩
    have HB3 := hid (HB2.out.trans (hb3.mono HB2.out.size))
    have hcode : pcode (entries s) = (0, 0) := by unfold pcode; rw [(book_of HS.out).1]
    rw [hcode]
    unfold faultV
    obtain ⟨w4, hw4⟩ : ∃ w4, w3.alloc (.cells #[.int .i64 0, .int .i64 0] 96) = w4 := ⟨_, rfl⟩
    have hb4 : Below w3.heap.size w3 w4 := by rw [← hw4]; exact (Below.refl _ _).alloc (Nat.le_refl _) _
    have HB4 := hid (HB3.out.trans (hb4.mono HB3.out.size))
    have q0 : w4.cell? ⟨w3.heap.size, 0, none⟩ = some (.int .i64 0) := (show Row w4 w3.heap.size 96 [.int .i64 0, .int .i64 0] by rw [← hw4]; exact Row.new _ _ _).cell 0
    have HPR := hid (show Pairs w4 w4.heap.size (.slice ov nv cv) (bookR s) by rw [bookR_ok HZ.out]; exact (hpr.below hb4).mono hb4.size)
    have HW4 := hid hw4
    clear hb3 hb4 hpr hcode hw4
    go_upto_region 5 with fail
    rw [HW4.out]
    go_quiet (fail)
    go_wp2
    go_ret2
    exact ⟨HB4.out.trans (below_drewH _ _ _), ov, nv, cv, by rw [HZ.out]; first | done | rfl, HPR.out⟩
  · have e0 : (wrongS s != 0) = true := by simpa using hz
    have HPR := hid (show Pairs w1 w1.heap.size (.slice none 0 0) (bookR s) by rw [bookR_no hz]; exact Pairs.nil _ _)
    clear hz
    generalize hzz : wrongS s = z at *
    have HZZ := hid hzz
    clear hzz
    go_wp2
    go_ret2
    exact ⟨HB1.out, none, 0, 0, by rw [HZZ.out]; first | done | rfl, HPR.out⟩
end Go.Proofs.YtooemgkjkngpcaaGreatDoor
