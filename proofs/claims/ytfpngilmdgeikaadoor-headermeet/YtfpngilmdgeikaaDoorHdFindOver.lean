/-
  What slices.BinarySearchFunc answers over validators whose keys rise: where a key stands, or would stand; what voted answers.
  What voted and Overlap answer: whether a key votes; whether those who voted have more than a third of what is trusted.
-/
import Derived.Test.YtfpngilmdgeikaaDoorHdMems
import Derived.Test.YtfpngilmdgeikaaDoorHdPow
import Derived.Test.YtfpngilmdgeikaaDoorHdNameVals
namespace Go.Proofs.YtfpngilmdgeikaaDoor
open Go.RowKit

def cmp3 (a b : Nat) : Int := if a < b then -1 else if b < a then 1 else 0
theorem cmp3_neg (a b : Nat) : cmp3 a b < 0 ↔ a < b := by unfold cmp3; split <;> (try split) <;> omega
theorem cmp3_zero (a b : Nat) : cmp3 a b = 0 ↔ a = b := by unfold cmp3; split <;> (try split) <;> omega
theorem isNaN_any (a : Nat) (w : World) : Calls Tryd.prog 173 #[.int .u64 (a : Int)] w fun e w' => e = .returned (.bool false) ∧ w' = w := by
  have e1 : ((a : Int) != (a : Int)) = false := by simp
  go_enter Tryd.func173, Tryd.ntmps173
  go_wp2
  go_ret
  exact ⟨by simp; first | done | rfl, rfl⟩
theorem compare3_any (a b : Nat) (w : World) : Calls Tryd.prog 148 #[.int .u64 (a : Int), .int .u64 (b : Int)] w fun e w' => e = .returned (.int .i64 (cmp3 a b)) ∧ w' = w := by
  by_cases h1 : a < b
  · have e1 : decide ((a : Int) < (b : Int)) = true := by simp; omega
    have e1n : decide (a < b) = true := decide_eq_true (by omega)
    have HC := hid (show cmp3 a b = -1 by unfold cmp3; rw [if_pos h1])
    clear h1
    go_enter Tryd.func148, Tryd.ntmps148
    go_wp2_with (go_at_call 173; refine (isNaN_any _ _).mono ?_; rintro e w' ⟨rfl, hw⟩; obtain rfl := hw.symm)
    go_ret
    exact ⟨by rw [HC.out]; first | done | rfl, rfl⟩
  · have e1 : decide ((a : Int) < (b : Int)) = false := by simp; omega
    have e1n : decide (a < b) = false := decide_eq_false (by omega)
    by_cases h2 : b < a
    · have e2 : decide ((b : Int) < (a : Int)) = true := by simp; omega
      have e2n : decide (b < a) = true := decide_eq_true (by omega)
      have HC := hid (show cmp3 a b = 1 by unfold cmp3; rw [if_neg h1, if_pos h2])
      clear h1 h2
      go_enter Tryd.func148, Tryd.ntmps148
      go_wp2_with (go_at_call 173; refine (isNaN_any _ _).mono ?_; rintro e w' ⟨rfl, hw⟩; obtain rfl := hw.symm)
      go_ret
      exact ⟨by rw [HC.out]; first | done | rfl, rfl⟩
    · have e2 : decide ((b : Int) < (a : Int)) = false := by simp; omega
      have e2n : decide (b < a) = false := decide_eq_false (by omega)
      have HC := hid (show cmp3 a b = 0 by unfold cmp3; rw [if_neg h1, if_neg h2])
      clear h1 h2
      go_enter Tryd.func148, Tryd.ntmps148
      go_wp2_with (go_at_call 173; refine (isNaN_any _ _).mono ?_; rintro e w' ⟨rfl, hw⟩; obtain rfl := hw.symm)
      go_ret
      exact ⟨by rw [HC.out]; first | done | rfl, rfl⟩
theorem compareV_any (v : Vl) (key : Nat) (w : World) :
    Calls Tryd.prog 110 #[.agg #[.int .u64 (v.key : Int), .int .u64 (v.power : Int)], .int .u64 (key : Int)] w fun e w' => e = .returned (.int .i64 (cmp3 v.key key)) ∧ Below w.heap.size w w' := by
  obtain ⟨w1, hw1⟩ : ∃ w1, w.alloc (.cells #[.int .u64 (v.key : Int), .int .u64 (v.power : Int)] 45) = w1 := ⟨_, rfl⟩
  have HB1 := hid (show Below w.heap.size w w1 by rw [← hw1]; exact (Below.refl _ _).alloc (Nat.le_refl _) _)
  have g0 := (show Row w1 w.heap.size 45 [.int .u64 (v.key : Int), .int .u64 (v.power : Int)] by rw [← hw1]; exact Row.new _ _ _).cell 0
  have HC := hid (compare3_any v.key key w1)
  have HW := hid hw1
  clear hw1
  generalize cmp3 v.key key = cc at *
  go_enter Tryd.func110, Tryd.ntmps110
  go_wp2_with fail
  rw [HW.out]
  refine HC.out.mono ?_
  rintro e w2 ⟨rfl, hw2⟩
  obtain rfl := hw2.symm
  go_wp2
  go_ret
  exact ⟨rfl, HB1.out⟩
/-- where a key stands, or would stand -/
def AtV (key : Nat) (l : List Vl) (i : Nat) (fd : Bool) : Prop := i ≤ l.length ∧ (∀ t v, t < i → l[t]? = some v → v.key < key) ∧ (∀ t v, i ≤ t → l[t]? = some v → key ≤ v.key) ∧ (fd = true ↔ ∃ v, l[i]? = some v ∧ v.key = key)
theorem rising {l : List Vl} (h : l.Pairwise (fun a b => a.key < b.key)) {i j : Nat} {a b : Vl} (hij : i < j) (ha : l[i]? = some a) (hb : l[j]? = some b) : a.key < b.key := by
  obtain ⟨hi, rfl⟩ := List.getElem?_eq_some_iff.1 ha
  obtain ⟨hj, rfl⟩ := List.getElem?_eq_some_iff.1 hb
  exact List.pairwise_iff_getElem.1 h i j hi hj hij
set_option maxRecDepth 100000 in
set_option maxHeartbeats 1000000 in
theorem searchV_any (l : List Vl) (k : Nat) (sv : Value) (N : Nat) (w : World) (lb : Array Value) (hlb : lb = #[]) (hN : N ≤ w.heap.size) (hl : Vals w N sv l) (hs : l.Pairwise (fun a b => a.key < b.key)) (hlen : l.length ≤ 1000000) :
    Calls Tryd.prog 109 #[sv, .int .u64 (k : Int), .func (.func 110) #[] lb] w fun e w' => Below w.heap.size w w' ∧ ∃ i fd, AtV k l i fd ∧ e = .returned (.tuple #[.int .i64 (i : Nat), .bool fd]) := by
  subst hlb
  obtain ⟨oa, ca, rfl, hca⟩ := hl.shape
  have HL := hid hl
  have HS := hid hs
  clear hl hs
  generalize hn : l.length = n at *
  have HN := hid hn
  clear hn
  have HCMP := hid (show ∀ (wr : World) (b o j : Nat) (p : Vl), oa = some ⟨b, o, none⟩ → Below w.heap.size w wr → l[j]? = some p → wr.cell? ⟨b, o + j * 2, none⟩ = some (.int .u64 (p.key : Int)) ∧ wr.cell? ⟨b, o + j * 2 + 1, none⟩ = some (.int .u64 (p.power : Int)) ∧
      Calls Tryd.prog 110 #[.agg #[.int .u64 (p.key : Int), .int .u64 (p.power : Int)], .int .u64 (k : Int)] wr (fun e w' => e = .returned (.int .i64 (cmp3 p.key k)) ∧ Below w.heap.size w w') from by
    intro wr b o j p hoa hb hp
    obtain ⟨b', o', he, hcells⟩ := HL.out.spot (by have := (List.getElem?_eq_some_iff.1 hp).1; rw [HN.out] at this; omega)
    rw [hoa] at he
    obtain ⟨rfl, rfl⟩ : b = b' ∧ o = o' := by simpa using he
    obtain ⟨hbN, d0, d1⟩ := hcells j p hp
    refine ⟨(hb.cell (p := ⟨b, o + j * 2, none⟩) (by show b < _; omega)).trans d0, (hb.cell (p := ⟨b, o + j * 2 + 1, none⟩) (by show b < _; omega)).trans d1, ?_⟩
    refine (compareV_any p k wr).mono ?_
    rintro e w' ⟨rfl, hb2⟩
    exact ⟨rfl, hb.trans (hb2.mono hb.size)⟩)
  go_enter Tryd.func109, Tryd.ntmps109
  go_wp2_with fail
  go_loopw [9, 10] (fun s9 s10 wr => ∃ lo hi : Nat, s9 = .int .i64 lo ∧ s10 = .int .i64 hi ∧ lo ≤ hi ∧ hi ≤ n ∧ Hid (Below w.heap.size w wr) ∧ Hid ((∀ t p, t < lo → l[t]? = some p → p.key < k) ∧ (∀ t p, hi ≤ t → l[t]? = some p → k ≤ p.key))) (fun s9 s10 _ => (intOf s10 - intOf s9).toNat)
  case atStart => exact ⟨0, n, rfl, rfl, Nat.zero_le _, Nat.le_refl _, Below.refl _ _, fun t p ht => absurd ht (Nat.not_lt_zero _), fun t p h1 h2 => by have := (List.getElem?_eq_some_iff.1 h2).1; rw [HN.out] at this; omega⟩
  case round =>
    obtain ⟨lo, hi, rfl, rfl, hlh, hin, HB, HI⟩ := hrel
    by_cases hlt : lo < hi
    · have hml : (lo + hi) / 2 < n := by omega
      obtain ⟨p, hp⟩ : ∃ p, l[(lo + hi) / 2]? = some p := ⟨l[(lo + hi) / 2]'(by rw [HN.out]; exact hml), List.getElem?_eq_getElem _⟩
      obtain ⟨b, o, rfl, hxx⟩ := HL.out.spot (by omega)
      obtain ⟨d0, d1, hc⟩ := HCMP.out wr b o _ p rfl HB.out hp
      have HCC := hid hc
      have HP := hid hp
      clear hc hp hxx
      obtain ⟨h, hh⟩ : ∃ h, (lo + hi) / 2 = h := ⟨_, rfl⟩
      rw [hh] at d0 d1 HP hml
      have hh1 : ((lo : Int) + (hi : Int)) / 2 = (h : Int) := by omega
      have hlt' : (lo : Int) < (hi : Int) := by omega
      have HH := hid hh
      clear hh
      by_cases hyx : cmp3 p.key k < 0
      · have HLT := hid ((cmp3_neg _ _).1 hyx)
        have hyx' : decide (cmp3 p.key k < 0) = true := by simpa using hyx
        generalize cmp3 p.key k = cc at *
        go_wp2_with fail
        refine HCC.out.mono ?_
        rintro e w2 ⟨rfl, hb2⟩
        have HB2 := hid hb2
        clear hb2
        go_wp2_with fail
        have hx := HH.out
        refine ⟨⟨h + 1, hi, by go_num, rfl, by omega, hin, HB2.out, ?_, HI.out.2⟩, by simp [intOf]; omega⟩
        intro t q ht hq
        by_cases e : t = h
        · subst e
          rw [HP.out] at hq
          obtain rfl : p = q := by simpa using hq
          exact HLT.out
        · exact Nat.lt_trans (rising HS.out (show t < h by omega) hq HP.out) HLT.out
      · have HLT := hid (fun h => hyx ((cmp3_neg p.key k).2 h))
        have hyx' : decide (cmp3 p.key k < 0) = false := by simpa using hyx
        generalize cmp3 p.key k = cc at *
        go_wp2_with fail
        refine HCC.out.mono ?_
        rintro e w2 ⟨rfl, hb2⟩
        have HB2 := hid hb2
        clear hb2
        go_wp2_with fail
        have hx := HH.out
        refine ⟨⟨lo, h, rfl, by go_num, by omega, by omega, HB2.out, HI.out.1, ?_⟩, by simp [intOf]; omega⟩
        intro t q ht hq
        have hph : k ≤ p.key := Nat.le_of_not_lt HLT.out
        by_cases e : t = h
        · subst e
          rw [HP.out] at hq
          obtain rfl : p = q := by simpa using hq
          exact hph
        · have := rising HS.out (show h < t by omega) HP.out hq
          omega
    · obtain rfl : hi = lo := by omega
      have hge : decide ((hi : Int) < (hi : Int)) = false := by simp
      by_cases hn : hi < n
      · obtain ⟨p, hp⟩ : ∃ p, l[hi]? = some p := ⟨l[hi]'(by rw [HN.out]; exact hn), List.getElem?_eq_getElem _⟩
        obtain ⟨b, o, rfl, hxx⟩ := HL.out.spot (by omega)
        obtain ⟨d0, d1, hc⟩ := HCMP.out wr b o _ p rfl HB.out hp
        have HCC := hid hc
        have hlt' : (hi : Int) < (n : Int) := by omega
        have hlt2 : decide ((hi : Int) < (n : Int)) = true := by simpa using hlt'
        obtain ⟨fd, hfd⟩ : ∃ fd, decide (cmp3 p.key k = 0) = fd := ⟨_, rfl⟩
        have HAT := hid (show AtV k l hi fd from ⟨by rw [HN.out]; exact hin, HI.out.1, HI.out.2, by
          rw [← hfd, decide_eq_true_eq, cmp3_zero]
          constructor
          · intro h
            exact ⟨p, hp, h⟩
          · rintro ⟨q, hq, h⟩
            rw [hp] at hq
            obtain rfl : p = q := by simpa using hq
            exact h⟩)
        clear hc hp hxx
        generalize cmp3 p.key k = cc at *
        go_wp2_with fail
        refine HCC.out.mono ?_
        rintro e w2 ⟨rfl, hb2⟩
        have HB2 := hid hb2
        clear hb2
        go_wp2
        go_ret2
        exact ⟨HB2.out, hi, fd, HAT.out, by rw [← hfd]; rfl⟩
      · have hlt2 : decide ((hi : Int) < (n : Int)) = false := by simp; omega
        have HAT := hid (show AtV k l hi false from ⟨by rw [HN.out]; exact hin, HI.out.1, HI.out.2, by
          constructor
          · intro h; cases h
          · rintro ⟨q, hq, _⟩
            have := (List.getElem?_eq_some_iff.1 hq).1
            rw [HN.out] at this
            omega⟩)
        go_wp2
        go_ret2
        exact ⟨HB.out, hi, false, HAT.out, rfl⟩
/-- of rising keys, who votes -/
theorem votedB_iff (key : Nat) : ∀ (vs : List Vl) (ts : List Vt), votedB key vs ts = true ↔ ∃ (i : Nat) (v : Vl) (t : Vt), vs[i]? = some v ∧ ts[i]? = some t ∧ v.key = key ∧ t.is = true
  | [], ts => by simp [votedB]
  | v :: vs, [] => by simp [votedB]
  | v :: vs, t :: ts => by
    rw [votedB, Bool.or_eq_true, Bool.and_eq_true, decide_eq_true_eq, votedB_iff key vs ts]
    constructor
    · rintro (⟨h1, h2⟩ | ⟨i, a, b, h1, h2, h3, h4⟩)
      · exact ⟨0, v, t, rfl, rfl, h1, h2⟩
      · exact ⟨i + 1, a, b, by simpa using h1, by simpa using h2, h3, h4⟩
    · rintro ⟨i, a, b, h1, h2, h3, h4⟩
      cases i with
      | zero =>
        obtain rfl : v = a := by simpa using h1
        obtain rfl : t = b := by simpa using h2
        exact .inl ⟨h3, h4⟩
      | succ i => exact .inr ⟨i, a, b, by simpa using h1, by simpa using h2, h3, h4⟩
theorem votedB_at {key i : Nat} {vs : List Vl} {ts : List Vt} {t : Vt} (hs : vs.Pairwise (fun a b => a.key < b.key)) (h : AtV key vs i true) (ht : ts[i]? = some t) : votedB key vs ts = t.is := by
  obtain ⟨v, hv, hk⟩ := h.2.2.2.1 rfl
  rw [Bool.eq_iff_iff, votedB_iff]
  constructor
  · rintro ⟨j, a, b, h1, h2, h3, h4⟩
    have : j = i := by
      rcases Nat.lt_trichotomy j i with hlt | rfl | hlt
      · have := rising hs hlt h1 hv; omega
      · rfl
      · have := rising hs hlt hv h1; omega
    subst this
    rw [ht] at h2
    obtain rfl : t = b := by simpa using h2
    exact h4
  · intro h4
    exact ⟨i, v, t, hv, ht, hk, h4⟩
theorem votedB_none {key i : Nat} {vs : List Vl} {ts : List Vt} (hs : vs.Pairwise (fun a b => a.key < b.key)) (h : AtV key vs i false) : votedB key vs ts = false := by
  cases hb : votedB key vs ts with
  | false => rfl
  | true =>
    obtain ⟨j, a, b, h1, _, h3, _⟩ := (votedB_iff key vs ts).1 hb
    exfalso
    rcases Nat.lt_trichotomy j i with hlt | rfl | hlt
    · have := h.2.1 j a hlt h1; omega
    · have := h.2.2.2.2 ⟨a, h1, h3⟩; cases this
    · obtain ⟨v, hv⟩ : ∃ v, vs[i]? = some v := ⟨vs[i]'(by have := (List.getElem?_eq_some_iff.1 h1).1; omega), List.getElem?_eq_getElem _⟩
      have h5 := h.2.2.1 i v (Nat.le_refl _) hv
      have h6 := rising hs hlt hv h1
      omega
end Go.Proofs.YtfpngilmdgeikaaDoor
namespace Go.Proofs.YtfpngilmdgeikaaDoor
open Go.RowKit

/-- what Overlap is to answer, of right validators and of what Check says nothing of -/
def OverC (f : FuncId) : Prop := ∀ (t : List Vl) (s : Sg) (tv v : Value) (N : Nat) (w : World), N ≤ w.heap.size → Vals w N tv t → SgV w N v s → valsN t = 0 → (∀ v ∈ t, v.ok) → valsN s.vals = 0 → s.votes.length = s.vals.length →
  Calls Tryd.prog f #[tv, v] w fun e w' => e = .returned (.bool (overB t s)) ∧ Below w.heap.size w w'
set_option maxRecDepth 100000 in
set_option maxHeartbeats 1000000 in
theorem voted_any (s : Sg) (v : Value) (key N : Nat) (w : World) (hN : N ≤ w.heap.size) (hv : SgV w N v s) (hs : s.vals.Pairwise (fun a b => a.key < b.key)) (h10 : s.vals.length ≤ 10) (hlen : s.votes.length = s.vals.length) :
    Calls Tryd.prog 63 #[v, .int .u64 (key : Int)] w fun e w' => e = .returned (.bool (votedB key s.vals s.votes)) ∧ Below w.heap.size w w' := by
  obtain ⟨rv, vv, nv, lv, tv, rfl, h1, h2, h3, h4, h5⟩ := hv
  obtain ⟨o1, c1, rfl, _⟩ := h1.shape
  obtain ⟨o2, c2, rfl, _⟩ := h2.shape
  obtain ⟨o3, c3, rfl, _⟩ := h3.shape
  have HT := hid h5
  have HL := hid h4
  obtain ⟨o4, c4, rfl, _⟩ := h4.shape
  obtain ⟨o5, c5, rfl, _⟩ := h5.shape
  have HS := hid hs
  obtain ⟨w0, hw0⟩ : ∃ w0, w.alloc (.cells #[.string s.hd.chain, .int .i64 s.hd.height, .int .i64 s.hd.time, .slice o1 s.hd.root.length c1, .slice o2 s.hd.vals.length c2, .slice o3 s.hd.next.length c3, .slice o4 s.vals.length c4, .slice o5 s.votes.length c5] 29) = w0 := ⟨_, rfl⟩
  have HB0 := hid (show Below w.heap.size w w0 by rw [← hw0]; exact (Below.refl _ _).alloc (Nat.le_refl _) _)
  have HR0 := hid (show Row w0 w.heap.size 29 [.string s.hd.chain, .int .i64 s.hd.height, .int .i64 s.hd.time, .slice o1 s.hd.root.length c1, .slice o2 s.hd.vals.length c2, .slice o3 s.hd.next.length c3, .slice o4 s.vals.length c4, .slice o5 s.votes.length c5] by rw [← hw0]; exact Row.new _ _ _)
  have k6 := HR0.out.cell 6
  have HSE := hid (searchV_any s.vals key _ N w0 #[] rfl (Nat.le_trans hN HB0.out.size) (HL.out.below (HB0.out.mono hN)) hs (by omega))
  clear h1 h2 h3 h4 h5 hs
  generalize s.hd.root.length = m1 at *
  generalize s.hd.vals.length = m2 at *
  generalize s.hd.next.length = m3 at *
  generalize hvs : s.vals = vs at *
  generalize hts : s.votes = ts at *
  clear hvs hts
  generalize hn : vs.length = nv at *
  generalize hnt : ts.length = n at *
  subst hlen
  have HN := hid hn
  have HNT := hid hnt
  clear hn hnt
  go_enter Tryd.func63, Tryd.ntmps63
  go_wp2_with fail
  refine HSE.out.mono ?_
  rintro e w1 ⟨hb1, i, fd, hat, rfl⟩
  have HB1 := hid (HB0.out.trans (hb1.mono HB0.out.size))
  have i7 := (HR0.out.below hb1 HR0.out.lt).cell 7
  have HAT := hid hat
  clear hb1 hat hw0
  cases fd with
  | false =>
    have HVB := hid (votedB_none (ts := ts) HS.out HAT.out)
    go_wp2
    go_ret
    exact ⟨by rw [HVB.out]; first | done | rfl, HB1.out⟩
  | true =>
    obtain ⟨v, hv, hvk⟩ := HAT.out.2.2.2.1 rfl
    have hin : i < n := by have := (List.getElem?_eq_some_iff.1 hv).1; rw [HN.out] at this; exact this
    obtain ⟨t, ht⟩ : ∃ t, ts[i]? = some t := ⟨ts[i]'(by rw [HNT.out]; exact hin), List.getElem?_eq_getElem _⟩
    have HVB := hid (votedB_at HS.out HAT.out ht)
    obtain ⟨b, p, rfl, hcells⟩ := HT.out.spot (by omega)
    obtain ⟨hbN, a0, _, _⟩ := hcells i t ht
    have f0 := (HB1.out.cell (p := ⟨b, p + i * 3, none⟩) (by show b < _; omega)).trans a0
    have hin' : (i : Int) < (n : Int) := by omega
    have e1 : decide ((i : Int) < (n : Int)) = true := by simp; omega
    have e1n : decide (i < n) = true := decide_eq_true hin
    clear hcells a0 hv hvk ht
    go_wp2
    go_ret
    exact ⟨by rw [HVB.out]; first | done | rfl, HB1.out⟩
set_option maxRecDepth 100000 in
set_option maxHeartbeats 1000000 in
theorem over1_any (t : List Vl) (s : Sg) (k gs gt : Nat) (o : Option Addr) (c N : Nat) (w : World) (hN : N ≤ w.heap.size) (ht : Vals w N (.slice o t.length c) t) (x0 x1 x2 x3 x4 x5 x6 x7 : Value) (hv : SgV w N (.agg #[x0, x1, x2, x3, x4, x5, x6, x7]) s) (hr : Row w gs 29 [x0, x1, x2, x3, x4, x5, x6, x7])
    (hc : w.cell? ⟨gt, 0, none⟩ = some (.slice o t.length c)) (hs : s.vals.Pairwise (fun a b => a.key < b.key)) (h10 : s.vals.length ≤ 10) (hlen : s.votes.length = s.vals.length) (v : Vl) (hk : t[k]? = some v) (htl : t.length ≤ 10) :
    Calls Tryd.prog 62 #[.int .i64 (k : Int), .pointer (some ⟨gs, 0, none⟩), .pointer (some ⟨gt, 0, none⟩)] w fun e w' => e = .returned (.bool (votedB v.key s.vals s.votes)) ∧ Below w.heap.size w w' := by
  have hkl := (List.getElem?_eq_some_iff.1 hk).1
  obtain ⟨b, p, rfl, hcells⟩ := ht.spot (by omega)
  obtain ⟨_, a0, _⟩ := hcells k v hk
  obtain ⟨j0, j1, j2, j3, j4, j5, j6, j7⟩ := hr.eight
  have hlt : (k : Int) < (t.length : Int) := by omega
  have HV := hid (voted_any s _ v.key N w.drew hN (hv.below (below_drewH w 1 N)) hs h10 hlen)
  obtain ⟨rv, vv, nv, lv, tv, he, h1, h2, h3, h4, h5⟩ := hv
  obtain ⟨o1, c1, rfl, _⟩ := h1.shape
  obtain ⟨o2, c2, rfl, _⟩ := h2.shape
  obtain ⟨o3, c3, rfl, _⟩ := h3.shape
  obtain ⟨o4, c4, rfl, _⟩ := h4.shape
  obtain ⟨o5, c5, rfl, _⟩ := h5.shape
  obtain ⟨rfl, rfl, rfl, rfl, rfl, rfl, rfl, rfl⟩ : x0 = _ ∧ x1 = _ ∧ x2 = _ ∧ x3 = _ ∧ x4 = _ ∧ x5 = _ ∧ x6 = _ ∧ x7 = _ := by simpa using he
  clear hcells ht hr hs h1 h2 h3 h4 h5 hk he hlen
  generalize t.length = n at *
  go_enter Tryd.func62, Tryd.ntmps62
  go_wp2_with fail
  refine region_tail 6 (by kernel_rfl) (by kernel_rfl) ?_
  simp only [List.take_succ_cons, List.take_zero, List.drop_succ_cons, List.drop_zero]
  repeat still_step
  refine wpStill_nil ?_
  go_wp2_with fail
  refine HV.out.mono ?_
  rintro e w2 ⟨rfl, hb2⟩
  have HB2 := hid hb2
  clear hb2
  go_wp2
  go_ret
  exact ⟨rfl, (below_drewH w 1 _).trans HB2.out⟩
set_option maxRecDepth 100000 in
set_option maxHeartbeats 1000000 in
theorem overC : OverC 27 := by
  intro t s tv v N w hN ht hv htv htok hsv hlen
  have HSV := hid hv
  have HTV := hid ht
  obtain ⟨v1, v2, v3, _⟩ := valsN_ok htv
  obtain ⟨_, u2, _, u4⟩ := valsN_ok hsv
  have HU4 := hid u4
  have HV3 := hid v3
  obtain ⟨rv, vv, nv, lv, tsv, rfl, h1, h2, h3, h4, h5⟩ := hv
  obtain ⟨o1, c1, rfl, _⟩ := h1.shape
  obtain ⟨o2, c2, rfl, _⟩ := h2.shape
  obtain ⟨o3, c3, rfl, _⟩ := h3.shape
  obtain ⟨o4, c4, rfl, _⟩ := h4.shape
  obtain ⟨o5, c5, rfl, _⟩ := h5.shape
  obtain ⟨o, c, rfl, _⟩ := ht.shape
  clear h1 h2 h3 h4 h5 ht u4 v3 htv hsv htok
  obtain ⟨w0, hw0⟩ : ∃ w0, w.alloc (.cells #[.slice o t.length c] 22) = w0 := ⟨_, rfl⟩
  have hb0 : Below w.heap.size w w0 := by rw [← hw0]; exact (Below.refl _ _).alloc (Nat.le_refl _) _
  have hr0 : Row w0 w.heap.size 22 [.slice o t.length c] := by rw [← hw0]; exact Row.new _ _ _
  have hsz0 : w0.heap.size = w.heap.size + 1 := by rw [← hw0]; simp
  obtain ⟨w1, hw1⟩ : ∃ w1, w0.alloc (.cells #[.string s.hd.chain, .int .i64 s.hd.height, .int .i64 s.hd.time, .slice o1 s.hd.root.length c1, .slice o2 s.hd.vals.length c2, .slice o3 s.hd.next.length c3, .slice o4 s.vals.length c4, .slice o5 s.votes.length c5] 29) = w1 := ⟨_, rfl⟩
  have hb1 : Below w0.heap.size w0 w1 := by rw [← hw1]; exact (Below.refl _ _).alloc (Nat.le_refl _) _
  have hr1 := hr0.below hb1 hr0.lt
  have HR1 := hid hr1
  have HS1 := hid (show Row w1 (w.heap.size + 1) 29 [.string s.hd.chain, .int .i64 s.hd.height, .int .i64 s.hd.time, .slice o1 s.hd.root.length c1, .slice o2 s.hd.vals.length c2, .slice o3 s.hd.next.length c3, .slice o4 s.vals.length c4, .slice o5 s.votes.length c5] by rw [← hw1, ← hsz0]; exact Row.new _ _ _)
  have HB1 := hid (hb0.trans (hb1.mono hb0.size))
  have k0 := hr1.cell 0
  have HPW := hid (powerOver (w.heap.size + 1) w.heap.size t (fun k => match t[k]? with | some v => votedB v.key s.vals s.votes | none => false) _ N w1 (Nat.le_trans hN HB1.out.size) (HTV.out.below (HB1.out.mono hN)) v2 (fun v hv => (HV3.out v hv).2) (fun k wr hk hb => by
    obtain ⟨v, hv⟩ : ∃ v, t[k]? = some v := ⟨t[k], List.getElem?_eq_getElem hk⟩
    have hbw := HB1.out.trans (hb.mono HB1.out.size)
    have := over1_any t s k (w.heap.size + 1) w.heap.size o c N wr (Nat.le_trans hN hbw.size) (HTV.out.below (hbw.mono hN)) _ _ _ _ _ _ _ _ (HSV.out.below (hbw.mono hN)) (HS1.out.below hb HS1.out.lt) ((HR1.out.below hb HR1.out.lt).cell 0) HU4.out u2 hlen v hv v2
    simp only [hv]
    exact this))
  rw [sumIx_over s t 0 _ (fun i v hv => by rw [Nat.zero_add]; simp only [hv])] at HPW
  have hle := overP_le s t
  have hal := allP_le t (fun v hv => (HV3.out v hv).2)
  have HOB := hid (show overB t s = decide (allP t < 3 * overP s t) from rfl)
  clear hb0 hr0 hb1 hr1 hlen
  generalize overP s t = oo at *
  generalize allP t = aa at *
  generalize t.length = n at *
  have hw3 : IntKind.u64.wrap (3 * (oo : Int)) = 3 * (oo : Int) := by simp [IntKind.wrap, IntKind.bits, IntKind.signed]; omega
  by_cases h3 : aa < 3 * oo
  · have e3 : decide ((aa : Int) < 3 * (oo : Int)) = true := by simp; omega
    rw [decide_eq_true h3] at HOB
    clear h3
    go_enter Tryd.func27, Tryd.ntmps27
    go_wp2_with fail
    refine HPW.out.mono ?_
    rintro e w2 ⟨rfl, hb2⟩
    have HB2 := hid (HB1.out.trans (hb2.mono HB1.out.size))
    clear hb2
    go_wp2
    go_ret
    exact ⟨by rw [HOB.out]; first | done | rfl | (simp [e3]; first | done | rfl), HB2.out⟩
  · have e3 : decide ((aa : Int) < 3 * (oo : Int)) = false := by simp; omega
    rw [decide_eq_false h3] at HOB
    clear h3
    go_enter Tryd.func27, Tryd.ntmps27
    go_wp2_with fail
    refine HPW.out.mono ?_
    rintro e w2 ⟨rfl, hb2⟩
    have HB2 := hid (HB1.out.trans (hb2.mono HB1.out.size))
    clear hb2
    go_wp2
    go_ret
    exact ⟨by rw [HOB.out]; first | done | rfl | (simp [e3]; first | done | rfl), HB2.out⟩
end Go.Proofs.YtfpngilmdgeikaaDoor
