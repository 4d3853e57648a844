/-
  The document's Wrong: what is wrong with a state.
-/
import Derived.Test.YtnoaohlajllngaaDoortlStByOne
import Derived.Test.YtnoaohlajllngaaDoortlStMem
import Derived.Test.YtnoaohlajllngaaDoortlRegions
import Derived.Test.YtnoaohlajllngaaDoortlSt8RW1
import Derived.Test.YtnoaohlajllngaaDoortlSt8RW2
import Derived.Test.YtnoaohlajllngaaDoortlSt8RW3
import Derived.Test.YtnoaohlajllngaaDoortlSt8RW4
import Derived.Test.YtnoaohlajllngaaDoortlSt8RW5
import Derived.Test.YtnoaohlajllngaaDoortlSt8RW6
import Derived.Test.YtnoaohlajllngaaDoortlClRAsk
import Derived.Deep.RegionHeld3
import Derived.Deep.RegionWith
import Derived.BigQuiet
namespace Go.Proofs.YtnoaohlajllngaaDoor
open Go.RowKit

/-- what Wrong is to answer of a state -/
def StWrongC (f : FuncId) : Prop := ∀ (s : St) (v : Value) (N : Nat) (w : World), StV w N v s → N ≤ w.heap.size → s.fits →
  Calls Tryd.prog f #[v] w fun e w' => e = .returned (.int .i64 (wrongS s)) ∧ Below w.heap.size w w'
end Go.Proofs.YtnoaohlajllngaaDoor
namespace Go.Proofs.YtnoaohlajllngaaDoor
open Go.RowKit

theorem orN_marks (a b c : List Mk) (r : List Int) : orN (marksN a :: marksN b :: marksN c :: r) = if firstW marksN [a, b, c] ≠ 0 then firstW marksN [a, b, c] else orN r := by
  simp only [orN, firstW]
  by_cases h1 : marksN a = 0 <;> by_cases h2 : marksN b = 0 <;> by_cases h3 : marksN c = 0 <;> simp [h1, h2, h3]
def manyL (s : St) : List (Int × Int) := [((s.clients.length : Int), 4), ((s.conns.length : Int), 8), ((s.chans.length : Int), 8), ((s.sent.length : Int), 50), ((s.got.length : Int), 50), ((s.acks.length : Int), 50), ((s.purses.length : Int), 60)]
theorem manyL_yes {s : St} (h : ∃ p ∈ manyL s, p.2 < p.1) : manyB s = true := by
  simp only [manyL, List.mem_cons, List.not_mem_nil, or_false] at h
  obtain ⟨p, hp, hlt⟩ := h
  refine decide_eq_true ?_
  rcases hp with rfl | rfl | rfl | rfl | rfl | rfl | rfl <;> simp only at hlt <;> omega
theorem manyL_no {s : St} (h : ∀ p ∈ manyL s, ¬ p.2 < p.1) : manyB s = false := by
  simp only [manyL, List.mem_cons, List.not_mem_nil, or_false, forall_eq_or_imp, forall_eq] at h
  obtain ⟨h1, h2, h3, h4, h5, h6, h7⟩ := h
  exact decide_eq_false (by omega)
theorem deep_clients {s : St} (h : firstW wrongCl s.clients ≠ 0) : deepS s = firstW wrongCl s.clients := by unfold deepS; rw [orN, if_pos h]
theorem deep_conns {s : St} (h1 : firstW wrongCl s.clients = 0) (h : firstW wrongCn s.conns ≠ 0) : deepS s = firstW wrongCn s.conns := by unfold deepS; rw [orN, if_neg (by simp [h1]), orN, if_pos h]
theorem deep_chans {s : St} (h1 : firstW wrongCl s.clients = 0) (h2 : firstW wrongCn s.conns = 0) (h : firstW wrongCh s.chans ≠ 0) : deepS s = firstW wrongCh s.chans := by unfold deepS; rw [orN, if_neg (by simp [h1]), orN, if_neg (by simp [h2]), orN, if_pos h]
theorem deep_rest {s : St} (h1 : firstW wrongCl s.clients = 0) (h2 : firstW wrongCn s.conns = 0) (h3 : firstW wrongCh s.chans = 0) : deepS s = orN [marksN s.sent, marksN s.got, marksN s.acks, pursesN s.purses] := by unfold deepS; rw [orN, if_neg (by simp [h1]), orN, if_neg (by simp [h2]), orN, if_neg (by simp [h3])]
theorem orN_one (n : Int) : orN [n] = n := by
  by_cases h : n = 0 <;> simp [orN, h]
set_option maxRecDepth 1000000 in
set_option maxHeartbeats 8000000 in
theorem refStWrongC : StWrongC 45 := by
  intro s v N w hv hN hfit
  obtain ⟨o1, c1, o2, c2, o3, c3, o4, c4, o5, c5, o6, c6, o7, c7, rfl, hm⟩ := hv.open
  have HM := hid hm
  obtain ⟨hfn, ⟨hf1, hf1'⟩, hf2, hf3, ⟨hf4, _⟩, ⟨hf5, _⟩, ⟨hf6, _⟩, hf7, _⟩ := hfit
  have HF1 := hid hf1'
  clear hv hm hf1'
  obtain ⟨w0, hw0⟩ : ∃ w0, w.alloc (.cells #[.string s.name, .int .i64 s.height, .int .i64 s.time, .slice o1 s.clients.length c1, .slice o2 s.conns.length c2, .slice o3 s.chans.length c3, .slice o4 s.sent.length c4, .slice o5 s.got.length c5, .slice o6 s.acks.length c6, .slice o7 s.purses.length c7] 69) = w0 := ⟨_, rfl⟩
  have HB0 := hid (show Below w.heap.size w w0 by rw [← hw0]; exact (Below.refl _ _).alloc (Nat.le_refl _) _)
  have HR0 := hid (show Row w0 w.heap.size 69 [.string s.name, .int .i64 s.height, .int .i64 s.time, .slice o1 s.clients.length c1, .slice o2 s.conns.length c2, .slice o3 s.chans.length c3, .slice o4 s.sent.length c4, .slice o5 s.got.length c5, .slice o6 s.acks.length c6, .slice o7 s.purses.length c7] by rw [← hw0]; exact Row.new _ _ _)
  have k0 : w0.cell? ⟨w.heap.size, 0, none⟩ = some (.string s.name) := HR0.out.cell 0
  have HW0 := hid hw0
  have HNM := hid (refName_any s.name w0 hfn)
  have HDN := hid (show wrongS s = if nameB s.name = false then 7 else if (fromB 0 s.height && fromB 0 s.time) = false then 3 else if manyB s = true then 5 else deepS s from rfl)
  clear hw0
  go_enter Tryd.func45, Tryd.ntmps45
  go_upto_region 1 with fail
  rw [HW0.out]
  go_wp2_with fail
  refine HNM.out.mono ?_
  rintro e w1 ⟨rfl, hb1⟩
  have HB1 := hid (HB0.out.trans (hb1.mono HB0.out.size))
  have HR1 := hid (HR0.out.below hb1 HR0.out.lt)
  clear hb1 k0
  cases hn : nameB s.name with
  | false =>
    have HW := hid (show wrongS s = 7 by rw [HDN.out, hn]; rfl)
    clear hn
    go_wp2
    go_ret
    exact ⟨by rw [HW.out]; first | done | rfl, HB1.out⟩
  | true =>
    have HNN := hid hn
    clear hn
    have k1 : w1.cell? ⟨w.heap.size, 1, none⟩ = some (.int .i64 s.height) := HR1.out.cell 1
    have k2 : w1.cell? ⟨w.heap.size, 2, none⟩ = some (.int .i64 s.time) := HR1.out.cell 2
    obtain ⟨w2, hw2⟩ : ∃ w2, w1.alloc (.cells #[.int .i64 s.height, .int .i64 s.time] 3) = w2 := ⟨_, rfl⟩
    have hb2 : Below w1.heap.size w1 w2 := by rw [← hw2]; exact (Below.refl _ _).alloc (Nat.le_refl _) _
    have HB2 := hid (HB1.out.trans (hb2.mono HB1.out.size))
    have HR2 := hid (HR1.out.below hb2 HR1.out.lt)
    have HFR := hid (refFrom_any 0 [s.height, s.time] w1.heap.size 2 w2 (by rw [← hw2]; exact Row.new _ _ _) rfl (by decide))
    simp only [List.all_cons, List.all_nil, Bool.and_true] at HFR
    have HW2 := hid hw2
    clear hb2 hw2
    go_wp2_with fail
    rw [HW2.out]
    refine HFR.out.mono ?_
    rintro e w2' ⟨rfl, h2'⟩
    rw [h2']
    clear h2' w2' k1 k2
    cases hq : (fromB 0 s.height && fromB 0 s.time) with
    | false =>
      have HW := hid (show wrongS s = 3 by rw [HDN.out, HNN.out, hq]; rfl)
      clear hq
      go_wp2
      go_ret
      exact ⟨by rw [HW.out]; first | done | rfl, HB2.out⟩
    | true =>
      have HQ := hid hq
      clear hq
      have k3 : w2.cell? ⟨w.heap.size, 3, none⟩ = some (.slice o1 s.clients.length c1) := HR2.out.cell 3
      have k4 : w2.cell? ⟨w.heap.size, 4, none⟩ = some (.slice o2 s.conns.length c2) := HR2.out.cell 4
      have k5 : w2.cell? ⟨w.heap.size, 5, none⟩ = some (.slice o3 s.chans.length c3) := HR2.out.cell 5
      have k6 : w2.cell? ⟨w.heap.size, 6, none⟩ = some (.slice o4 s.sent.length c4) := HR2.out.cell 6
      have k7 : w2.cell? ⟨w.heap.size, 7, none⟩ = some (.slice o5 s.got.length c5) := HR2.out.cell 7
      have k8 : w2.cell? ⟨w.heap.size, 8, none⟩ = some (.slice o6 s.acks.length c6) := HR2.out.cell 8
      have k9 : w2.cell? ⟨w.heap.size, 9, none⟩ = some (.slice o7 s.purses.length c7) := HR2.out.cell 9
      obtain ⟨w3, hw3⟩ : ∃ w3, w2.alloc (.cells #[.int .i64 (s.clients.length : Int), .int .i64 4, .int .i64 (s.conns.length : Int), .int .i64 8, .int .i64 (s.chans.length : Int), .int .i64 8, .int .i64 (s.sent.length : Int), .int .i64 50, .int .i64 (s.got.length : Int), .int .i64 50, .int .i64 (s.acks.length : Int), .int .i64 50, .int .i64 (s.purses.length : Int), .int .i64 60] 96) = w3 := ⟨_, rfl⟩
      have hb3 : Below w2.heap.size w2 w3 := by rw [← hw3]; exact (Below.refl _ _).alloc (Nat.le_refl _) _
      have HB3 := hid (HB2.out.trans (hb3.mono HB2.out.size))
      have HR3 := hid (HR2.out.below hb3 HR2.out.lt)
      have hr3 : Row w3 w2.heap.size 96 [.int .i64 (s.clients.length : Int), .int .i64 4, .int .i64 (s.conns.length : Int), .int .i64 8, .int .i64 (s.chans.length : Int), .int .i64 8, .int .i64 (s.sent.length : Int), .int .i64 50, .int .i64 (s.got.length : Int), .int .i64 50, .int .i64 (s.acks.length : Int), .int .i64 50, .int .i64 (s.purses.length : Int), .int .i64 60] := by rw [← hw3]; exact Row.new _ _ _
      have hg3 := hr3.lt
      have HC3 := hid (show ∀ k p, (manyL s)[k]? = some p → w3.cell? ⟨w2.heap.size, k * 2, none⟩ = some (.int .i64 p.1) ∧ w3.cell? ⟨w2.heap.size, k * 2 + 1, none⟩ = some (.int .i64 p.2) from fun k p hp =>
        match k, hp with
        | 0, hp => by cases hp; exact ⟨hr3.cell 0, hr3.cell 1⟩
        | 1, hp => by cases hp; exact ⟨hr3.cell 2, hr3.cell 3⟩
        | 2, hp => by cases hp; exact ⟨hr3.cell 4, hr3.cell 5⟩
        | 3, hp => by cases hp; exact ⟨hr3.cell 6, hr3.cell 7⟩
        | 4, hp => by cases hp; exact ⟨hr3.cell 8, hr3.cell 9⟩
        | 5, hp => by cases hp; exact ⟨hr3.cell 10, hr3.cell 11⟩
        | 6, hp => by cases hp; exact ⟨hr3.cell 12, hr3.cell 13⟩
        | _ + 7, hp => by cases hp)
      have HW3 := hid hw3
      clear hb3 hr3 hw3
      go_wp2_with fail
      rw [HW3.out]
      clear k3 k4 k5 k6 k7 k8 k9
      refine wrMany_block (manyL s) w2.heap.size w3 hg3 (hid rfl) HC3 _ (hid ?_) (hid ?_)
      rotate_left
      · intro u4 u59 u60 u61 u62 u63 u64 u65 u66 u67 u68 w4 hb4 hbad
        have HW := hid (show wrongS s = 5 by rw [HDN.out, HNN.out, HQ.out, manyL_yes hbad]; rfl)
        have HB4 := hid (HB3.out.trans (hb4.mono HB3.out.size))
        clear hb4 hbad
        go_ret
        exact ⟨by rw [HW.out]; first | done | rfl, HB4.out⟩
      intro u2 u4 u59 u60 u61 u62 u63 u64 u65 u66 u67 u68 w4 hb4 hok
      have HD := hid (show wrongS s = deepS s by rw [HDN.out, HNN.out, HQ.out, manyL_no hok]; rfl)
      have HB4 := hid (HB3.out.trans (hb4.mono HB3.out.size))
      have HR4 := hid (HR3.out.below hb4 HR3.out.lt)
      clear hb4 hok HDN HC3 hg3
      have k3 : w4.cell? ⟨w.heap.size, 3, none⟩ = some (.slice o1 s.clients.length c1) := HR4.out.cell 3
      go_wp2_with fail
      refine wrCl_block s.clients o1 c1 N w4 (Nat.le_trans hN HB4.out.size) (hid (HM.out.below (HB4.out.mono hN)).clients) hf1 HF1 _ (hid ?_) (hid ?_)
      rotate_left
      · intro u6 u7 u72 u73 u74 u75 u76 u77 u78 u79 u80 u81 w5 hb5 hbad
        have HB5 := hid (HB4.out.trans (hb5.mono HB4.out.size))
        have HW := hid (HD.out.trans (deep_clients hbad))
        clear hb5 hbad
        go_ret
        exact ⟨by rw [HW.out]; first | done | rfl, HB5.out⟩
      intro u2 u6 u7 u72 u73 u74 u75 u76 u77 u78 u79 u80 u81 w5 hb5 e5
      have E5 := hid e5
      have HB5 := hid (HB4.out.trans (hb5.mono HB4.out.size))
      have HR5 := hid (HR4.out.below hb5 HR4.out.lt)
      clear hb5 e5
      clear k3
      have k4 : w5.cell? ⟨w.heap.size, 4, none⟩ = some (.slice o2 s.conns.length c2) := HR5.out.cell 4
      go_wp2_with fail
      refine wrCn_block s.conns o2 c2 N w5 (Nat.le_trans hN HB5.out.size) (hid (HM.out.below (HB5.out.mono hN)).conns) hf2 _ (hid ?_) (hid ?_)
      rotate_left
      · intro u9 u85 u86 u87 u88 u89 u90 u91 u92 u93 u94 u95 u96 u97 u98 u99 u100 u101 u102 u103 u104 u105 u106 u107 u108 u109 u110 u111 w6 hb6 hbad
        have HB6 := hid (HB5.out.trans (hb6.mono HB5.out.size))
        have HW := hid (HD.out.trans (deep_conns E5.out hbad))
        clear hb6 hbad
        go_ret
        exact ⟨by rw [HW.out]; first | done | rfl, HB6.out⟩
      intro u2 u9 u85 u86 u87 u88 u89 u90 u91 u92 u93 u94 u95 u96 u97 u98 u99 u100 u101 u102 u103 u104 u105 u106 u107 u108 u109 u110 u111 w6 hb6 e6
      have E6 := hid e6
      have HB6 := hid (HB5.out.trans (hb6.mono HB5.out.size))
      have HR6 := hid (HR5.out.below hb6 HR5.out.lt)
      clear hb6 e6
      clear k4
      have k5 : w6.cell? ⟨w.heap.size, 5, none⟩ = some (.slice o3 s.chans.length c3) := HR6.out.cell 5
      go_wp2_with fail
      refine wrCh_block s.chans o3 c3 N w6 (Nat.le_trans hN HB6.out.size) (hid (HM.out.below (HB6.out.mono hN)).chans) hf3 _ (hid ?_) (hid ?_)
      rotate_left
      · intro u11 u115 u116 u117 u118 u119 u120 u121 u122 u123 u124 u125 u126 u127 u128 u129 u130 u131 u132 u133 u134 u135 u136 u137 u138 u139 u140 u141 u142 u143 u144 u145 u146 u147 u148 u149 u150 w7 hb7 hbad
        have HB7 := hid (HB6.out.trans (hb7.mono HB6.out.size))
        have HW := hid (HD.out.trans (deep_chans E5.out E6.out hbad))
        clear hb7 hbad
        go_ret
        exact ⟨by rw [HW.out]; first | done | rfl, HB7.out⟩
      intro u2 u11 u115 u116 u117 u118 u119 u120 u121 u122 u123 u124 u125 u126 u127 u128 u129 u130 u131 u132 u133 u134 u135 u136 u137 u138 u139 u140 u141 u142 u143 u144 u145 u146 u147 u148 u149 u150 w7 hb7 e7
      have E7 := hid e7
      have HB7 := hid (HB6.out.trans (hb7.mono HB6.out.size))
      have HR7 := hid (HR6.out.below hb7 HR6.out.lt)
      clear hb7 e7
      clear k5
      have k6 : w7.cell? ⟨w.heap.size, 6, none⟩ = some (.slice o4 s.sent.length c4) := HR7.out.cell 6
      have k7 : w7.cell? ⟨w.heap.size, 7, none⟩ = some (.slice o5 s.got.length c5) := HR7.out.cell 7
      have k8 : w7.cell? ⟨w.heap.size, 8, none⟩ = some (.slice o6 s.acks.length c6) := HR7.out.cell 8
      obtain ⟨w8, hw8⟩ : ∃ w8, w7.alloc (.cells #[.slice o4 s.sent.length c4, .slice o5 s.got.length c5, .slice o6 s.acks.length c6] 67) = w8 := ⟨_, rfl⟩
      have hb8 : Below w7.heap.size w7 w8 := by rw [← hw8]; exact (Below.refl _ _).alloc (Nat.le_refl _) _
      have HB8 := hid (HB7.out.trans (hb8.mono HB7.out.size))
      have HR8 := hid (HR7.out.below hb8 HR7.out.lt)
      have hr8 : Row w8 w7.heap.size 67 [.slice o4 s.sent.length c4, .slice o5 s.got.length c5, .slice o6 s.acks.length c6] := by rw [← hw8]; exact Row.new _ _ _
      have hg8 := hr8.lt
      have HM8 := hid (HM.out.below (HB8.out.mono hN))
      have HC8 := hid (show ∀ k x, [s.sent, s.got, s.acks][k]? = some x → ∃ o c, w8.cell? ⟨w7.heap.size, k, none⟩ = some (.slice o x.length c) ∧ Many MkR 3 w8 N (.slice o x.length c) x ∧ x.length < 2305843009213693952 from fun k x hx =>
        match k, hx with
        | 0, hx => by cases hx; exact ⟨_, _, hr8.cell 0, HM8.out.sent, hf4⟩
        | 1, hx => by cases hx; exact ⟨_, _, hr8.cell 1, HM8.out.got, hf5⟩
        | 2, hx => by cases hx; exact ⟨_, _, hr8.cell 2, HM8.out.acks, hf6⟩
        | _ + 3, hx => by cases hx)
      have HW8 := hid hw8
      clear hb8 hw8 hr8
      go_wp2_with fail
      rw [HW8.out]
      refine wrMk_block [s.sent, s.got, s.acks] w7.heap.size N w8 (Nat.le_trans hN HB8.out.size) hg8 (hid rfl) HC8 _ (hid ?_) (hid ?_)
      rotate_left
      · intro u13 u14 u159 u160 u161 u162 u163 u164 u165 u166 u167 u168 w9 hb9 hbad
        have HB9 := hid (HB8.out.trans (hb9.mono HB8.out.size))
        have HW := hid (HD.out.trans (show deepS s = firstW marksN [s.sent, s.got, s.acks] by rw [deep_rest E5.out E6.out E7.out, orN_marks, if_pos hbad]))
        clear hb9 hbad
        go_ret
        exact ⟨by rw [HW.out]; first | done | rfl, HB9.out⟩
      intro u2 u13 u14 u159 u160 u161 u162 u163 u164 u165 u166 u167 u168 w9 hb9 e9
      have E9 := hid e9
      have HB9 := hid (HB8.out.trans (hb9.mono HB8.out.size))
      have HR9 := hid (HR8.out.below hb9 HR8.out.lt)
      clear hb9 e9
      clear k6 k7 k8
      have k9 : w9.cell? ⟨w.heap.size, 9, none⟩ = some (.slice o7 s.purses.length c7) := HR9.out.cell 9
      go_wp2_with fail
      refine wrPu_block s.purses o7 c7 N w.heap.size w9 (Nat.le_trans hN HB9.out.size) HR9.out.lt k9 (hid (HM.out.below (HB9.out.mono hN)).purses) hf7 _ (hid ?_) (hid ?_)
      rotate_left
      · intro u15 u16 u17 u172 u173 u174 u175 u176 u177 u178 u179 u180 u181 u182 u183 u184 u185 u186 u187 u188 u189 u190 u191 u192 u193 u194 u195 u196 u197 u198 u199 u200 u201 u202 u203 u204 u205 u206 u207 u208 u209 u210 u211 u212 u213 u214 u215 u216 u217 u218 u219 u220 u221 u222 u223 u224 u225 u226 u227 u228 u229 w10 hb10 hbad
        have HB10 := hid (HB9.out.trans (hb10.mono HB9.out.size))
        have HW := hid (show wrongS s = pursesN s.purses by rw [HD.out, deep_rest E5.out E6.out E7.out, orN_marks, if_neg (by simp [E9.out]), orN_one])
        clear hb10 hbad
        go_ret
        exact ⟨by rw [HW.out]; first | done | rfl, HB10.out⟩
      intro u2 u15 u16 u17 u172 u173 u174 u175 u176 u177 u178 u179 u180 u181 u182 u183 u184 u185 u186 u187 u188 u189 u190 u191 u192 u193 u194 u195 u196 u197 u198 u199 u200 u201 u202 u203 u204 u205 u206 u207 u208 u209 u210 u211 u212 u213 u214 u215 u216 u217 u218 u219 u220 u221 u222 u223 u224 u225 u226 u227 u228 u229 w10 hb10 e10
      have HB10 := hid (HB9.out.trans (hb10.mono HB9.out.size))
      have HW := hid (show wrongS s = 0 by rw [HD.out, deep_rest E5.out E6.out E7.out, orN_marks, if_neg (by simp [E9.out]), orN_one]; exact e10)
      clear hb10 e10
      go_wp2
      go_ret
      exact ⟨by rw [HW.out]; first | done | rfl, HB10.out⟩
end Go.Proofs.YtnoaohlajllngaaDoor
