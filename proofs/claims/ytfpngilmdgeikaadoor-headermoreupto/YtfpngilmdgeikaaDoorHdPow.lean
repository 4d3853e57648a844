/-
  What power answers, with the two functions that it is handed: how much power those have whose places count, and how much all have.
-/
import Derived.Test.YtfpngilmdgeikaaDoorHdMems
import Derived.Test.YtfpngilmdgeikaaDoorWords
namespace Go.Proofs.YtfpngilmdgeikaaDoor
open Go.RowKit

/-- the power of those whose places count -/
def sumIx (p : Nat → Bool) : Nat → List Vl → Nat
  | _, [] => 0
  | k, v :: r => (if p k then v.power else 0) + sumIx p (k + 1) r
theorem sumIx_append (p : Nat → Bool) : ∀ (a b : List Vl) (k : Nat), sumIx p k (a ++ b) = sumIx p k a + sumIx p (k + a.length) b
  | [], b, k => by simp [sumIx]
  | v :: a, b, k => by
    rw [List.cons_append, sumIx, sumIx_append p a b (k + 1), sumIx, List.length_cons, show k + 1 + a.length = k + (a.length + 1) by omega]
    omega
theorem sumIx_take (p : Nat → Bool) (l : List Vl) (k : Nat) (v : Vl) (h : l[k]? = some v) : sumIx p 0 (l.take (k + 1)) = sumIx p 0 (l.take k) + (if p k then v.power else 0) := by
  obtain ⟨hk, rfl⟩ := List.getElem?_eq_some_iff.1 h
  rw [List.take_succ_eq_append_getElem hk, sumIx_append, List.length_take, Nat.min_eq_left (Nat.le_of_lt hk)]
  simp [sumIx]
theorem allP_take (l : List Vl) (k : Nat) (v : Vl) (h : l[k]? = some v) : allP (l.take (k + 1)) = allP (l.take k) + v.power := by
  obtain ⟨hk, rfl⟩ := List.getElem?_eq_some_iff.1 h
  unfold allP
  rw [List.take_succ_eq_append_getElem hk, List.map_append, List.sum_append]
  simp
theorem sumIx_le (p : Nat → Bool) : ∀ (l : List Vl) (k : Nat), sumIx p k l ≤ allP l
  | [], _ => by simp [sumIx]
  | v :: l, k => by
    have ih := sumIx_le p l (k + 1)
    simp [sumIx, allP] at ih ⊢
    split <;> omega
theorem sumIx_yes (vs : List Vl) (ts : List Vt) : ∀ (k : Nat) (p : Nat → Bool), ts.length = vs.length → (∀ i t, ts[i]? = some t → p (k + i) = t.is) → sumIx p k vs = yesP vs ts := by
  induction vs generalizing ts with
  | nil => intro k p h _; simp [sumIx, yesP]
  | cons v vs ih =>
    intro k p h hp
    cases ts with
    | nil => simp at h
    | cons t ts =>
      have h0 := hp 0 t rfl
      rw [Nat.add_zero] at h0
      rw [sumIx, yesP, h0, ih ts (k + 1) p (by simpa using h) (fun i t' ht => by have := hp (i + 1) t' (by simpa using ht); rwa [show k + (i + 1) = k + 1 + i by omega] at this)]
theorem sumIx_over (s : Sg) (l : List Vl) : ∀ (k : Nat) (p : Nat → Bool), (∀ i v, l[i]? = some v → p (k + i) = votedB v.key s.vals s.votes) → sumIx p k l = overP s l := by
  induction l with
  | nil => intro k p _; rfl
  | cons v l ih =>
    intro k p hp
    have h0 := hp 0 v rfl
    rw [Nat.add_zero] at h0
    rw [sumIx, overP, h0, ih (k + 1) p (fun i v' hv => by have := hp (i + 1) v' (by simpa using hv); rwa [show k + (i + 1) = k + 1 + i by omega] at this)]
set_option maxRecDepth 100000 in
set_option maxHeartbeats 2000000 in
theorem powerCheck (g : Nat) (l : List Vl) (p : Nat → Bool) (sv : Value) (N : Nat) (w : World) (hN : N ≤ w.heap.size) (hl : Vals w N sv l) (hlen : l.length ≤ 10) (hp : ∀ v ∈ l, v.power ≤ 1000000)
    (hstep : ∀ (k : Nat) (wr : World), k < l.length → Below w.heap.size w wr → Calls Tryd.prog 48 #[.int .i64 (k : Int), .pointer (some ⟨g, 0, none⟩)] wr fun e w' => e = .returned (.bool (p k)) ∧ Below wr.heap.size wr w') :
    Calls Tryd.prog 47 #[sv, .func (.func 48) #[] #[.pointer (some ⟨g, 0, none⟩)]] w fun e w' => e = .returned (.tuple #[.int .u64 (sumIx p 0 l : Int), .int .u64 (allP l : Int)]) ∧ Below w.heap.size w w' := by
  obtain ⟨oa, ca, rfl, hca⟩ := hl.shape
  have HL := hid hl
  have HP := hid hp
  have HST := hid hstep
  clear hl hp hstep
  generalize hn : l.length = n at *
  have HN := hid hn
  clear hn
  go_enter Tryd.func47, Tryd.ntmps47
  go_wp2_with fail
  go_loopw [4, 5, 6, 7, 10] (fun s4 s5 _ _ i wr => ∃ k : Nat, k ≤ n ∧ i = .int .i64 (k : Int) ∧ s4 = .int .u64 (sumIx p 0 (l.take k) : Int) ∧ s5 = .int .u64 (allP (l.take k) : Int) ∧ Hid (Below w.heap.size w wr)) (fun _ _ _ _ i _ => n - (intOf i).toNat)
  case atStart => exact ⟨0, by omega, rfl, rfl, rfl, hid (Below.refl _ _)⟩
  case round =>
    obtain ⟨k, hk, rfl, rfl, rfl, HT⟩ := hrel
    have hszr := HT.out.size
    have hpa : allP (l.take k) ≤ 10000000 := by
      have h1 := allP_le (l.take k) (fun v hv => HP.out v (List.mem_of_mem_take hv))
      have h2 : (l.take k).length ≤ 10 := by rw [List.length_take, HN.out]; omega
      omega
    have hps := sumIx_le p (l.take k) 0
    by_cases hlt : k < n
    · obtain ⟨v, hv⟩ : ∃ v, l[k]? = some v := ⟨l[k]'(by rw [HN.out]; exact hlt), List.getElem?_eq_getElem _⟩
      obtain ⟨b, o, rfl, hcells⟩ := HL.out.spot (by omega)
      obtain ⟨hbN, d0, d1⟩ := hcells k v hv
      have hbl : b < w.heap.size := by omega
      have f0 := (HT.out.cell (p := ⟨b, o + k * 2, none⟩) hbl).trans d0
      have f1 := (HT.out.cell (p := ⟨b, o + k * 2 + 1, none⟩) hbl).trans d1
      have hlt' : (k : Int) < (n : Int) := by omega
      have hvp := HP.out v (List.mem_of_getElem? hv)
      obtain ⟨w2, hw2⟩ : ∃ w2, wr.alloc (.cells #[.int .u64 (v.key : Int), .int .u64 (v.power : Int)] 45) = w2 := ⟨_, rfl⟩
      have hb2 : Below wr.heap.size wr w2 := by rw [← hw2]; exact (Below.refl _ _).alloc (Nat.le_refl _) _
      have HB2 := hid (HT.out.trans (hb2.mono hszr))
      have hr2 : Row w2 wr.heap.size 45 [.int .u64 (v.key : Int), .int .u64 (v.power : Int)] := by rw [← hw2]; exact Row.new _ _ _
      have q1 := hr2.cell 1
      have HR2 := hid hr2
      have HW2 := hid hw2
      have HC := hid (HST.out k w2 hlt HB2.out)
      have HA := hid (allP_take l k v hv)
      have HSI := hid (sumIx_take p l k v hv)
      clear d0 d1 hcells hb2 hw2 hv hr2
      generalize allP (l.take k) = aa at *
      generalize sumIx p 0 (l.take k) = ss at *
      have hwa : IntKind.u64.wrap ((aa : Int) + (v.power : Int)) = ((aa + v.power : Nat) : Int) := w64_add aa v.power (by omega)
      have hws : IntKind.u64.wrap ((ss : Int) + (v.power : Int)) = ((ss + v.power : Nat) : Int) := w64_add ss v.power (by omega)
      generalize hpk : p k = pk at *
      have HPK := hid hpk
      clear hpk
      cases pk with
      | true =>
        go_wp2_with fail
        rw [HW2.out]
        go_wp2_with fail
        refine HC.out.mono ?_
        rintro e w3 ⟨rfl, hb3⟩
        have q1' := (HR2.out.below hb3 HR2.out.lt).cell 1
        have HB3 := hid (HB2.out.trans (hb3.mono HB2.out.size))
        clear hb3
        go_wp2_with fail
        go_roundw
        case rel => exact ⟨k + 1, by omega, by go_num, by rw [HSI.out]; simp, by rw [HA.out]; first | rfl | go_num, hid HB3.out⟩
        case measure => simp [intOf]; omega
      | false =>
        go_wp2_with fail
        rw [HW2.out]
        go_wp2_with fail
        refine HC.out.mono ?_
        rintro e w3 ⟨rfl, hb3⟩
        have HB3 := hid (HB2.out.trans (hb3.mono HB2.out.size))
        clear hb3
        go_wp2_with fail
        go_roundw
        case rel => exact ⟨k + 1, by omega, by go_num, by rw [HSI.out]; simp, by rw [HA.out]; first | rfl | go_num, hid HB3.out⟩
        case measure => simp [intOf]; omega
    · have hge : decide ((k : Int) < (n : Int)) = false := by simp; omega
      have HK := hid (show l.take k = l from List.take_of_length_le (by rw [HN.out]; omega))
      rw [HK.out]
      go_wp2
      go_ret2
      exact ⟨rfl, HT.out⟩
set_option maxRecDepth 100000 in
set_option maxHeartbeats 2000000 in
theorem powerOver (g g2 : Nat) (l : List Vl) (p : Nat → Bool) (sv : Value) (N : Nat) (w : World) (hN : N ≤ w.heap.size) (hl : Vals w N sv l) (hlen : l.length ≤ 10) (hp : ∀ v ∈ l, v.power ≤ 1000000)
    (hstep : ∀ (k : Nat) (wr : World), k < l.length → Below w.heap.size w wr → Calls Tryd.prog 62 #[.int .i64 (k : Int), .pointer (some ⟨g, 0, none⟩), .pointer (some ⟨g2, 0, none⟩)] wr fun e w' => e = .returned (.bool (p k)) ∧ Below wr.heap.size wr w') :
    Calls Tryd.prog 47 #[sv, .func (.func 62) #[] #[.pointer (some ⟨g, 0, none⟩), .pointer (some ⟨g2, 0, none⟩)]] w fun e w' => e = .returned (.tuple #[.int .u64 (sumIx p 0 l : Int), .int .u64 (allP l : Int)]) ∧ Below w.heap.size w w' := by
  obtain ⟨oa, ca, rfl, hca⟩ := hl.shape
  have HL := hid hl
  have HP := hid hp
  have HST := hid hstep
  clear hl hp hstep
  generalize hn : l.length = n at *
  have HN := hid hn
  clear hn
  go_enter Tryd.func47, Tryd.ntmps47
  go_wp2_with fail
  go_loopw [4, 5, 6, 7, 10] (fun s4 s5 _ _ i wr => ∃ k : Nat, k ≤ n ∧ i = .int .i64 (k : Int) ∧ s4 = .int .u64 (sumIx p 0 (l.take k) : Int) ∧ s5 = .int .u64 (allP (l.take k) : Int) ∧ Hid (Below w.heap.size w wr)) (fun _ _ _ _ i _ => n - (intOf i).toNat)
  case atStart => exact ⟨0, by omega, rfl, rfl, rfl, hid (Below.refl _ _)⟩
  case round =>
    obtain ⟨k, hk, rfl, rfl, rfl, HT⟩ := hrel
    have hszr := HT.out.size
    have hpa : allP (l.take k) ≤ 10000000 := by
      have h1 := allP_le (l.take k) (fun v hv => HP.out v (List.mem_of_mem_take hv))
      have h2 : (l.take k).length ≤ 10 := by rw [List.length_take, HN.out]; omega
      omega
    have hps := sumIx_le p (l.take k) 0
    by_cases hlt : k < n
    · obtain ⟨v, hv⟩ : ∃ v, l[k]? = some v := ⟨l[k]'(by rw [HN.out]; exact hlt), List.getElem?_eq_getElem _⟩
      obtain ⟨b, o, rfl, hcells⟩ := HL.out.spot (by omega)
      obtain ⟨hbN, d0, d1⟩ := hcells k v hv
      have hbl : b < w.heap.size := by omega
      have f0 := (HT.out.cell (p := ⟨b, o + k * 2, none⟩) hbl).trans d0
      have f1 := (HT.out.cell (p := ⟨b, o + k * 2 + 1, none⟩) hbl).trans d1
      have hlt' : (k : Int) < (n : Int) := by omega
      have hvp := HP.out v (List.mem_of_getElem? hv)
      obtain ⟨w2, hw2⟩ : ∃ w2, wr.alloc (.cells #[.int .u64 (v.key : Int), .int .u64 (v.power : Int)] 45) = w2 := ⟨_, rfl⟩
      have hb2 : Below wr.heap.size wr w2 := by rw [← hw2]; exact (Below.refl _ _).alloc (Nat.le_refl _) _
      have HB2 := hid (HT.out.trans (hb2.mono hszr))
      have hr2 : Row w2 wr.heap.size 45 [.int .u64 (v.key : Int), .int .u64 (v.power : Int)] := by rw [← hw2]; exact Row.new _ _ _
      have q1 := hr2.cell 1
      have HR2 := hid hr2
      have HW2 := hid hw2
      have HC := hid (HST.out k w2 hlt HB2.out)
      have HA := hid (allP_take l k v hv)
      have HSI := hid (sumIx_take p l k v hv)
      clear d0 d1 hcells hb2 hw2 hv hr2
      generalize allP (l.take k) = aa at *
      generalize sumIx p 0 (l.take k) = ss at *
      have hwa : IntKind.u64.wrap ((aa : Int) + (v.power : Int)) = ((aa + v.power : Nat) : Int) := w64_add aa v.power (by omega)
      have hws : IntKind.u64.wrap ((ss : Int) + (v.power : Int)) = ((ss + v.power : Nat) : Int) := w64_add ss v.power (by omega)
      generalize hpk : p k = pk at *
      have HPK := hid hpk
      clear hpk
      cases pk with
      | true =>
        go_wp2_with fail
        rw [HW2.out]
        go_wp2_with fail
        refine HC.out.mono ?_
        rintro e w3 ⟨rfl, hb3⟩
        have q1' := (HR2.out.below hb3 HR2.out.lt).cell 1
        have HB3 := hid (HB2.out.trans (hb3.mono HB2.out.size))
        clear hb3
        go_wp2_with fail
        go_roundw
        case rel => exact ⟨k + 1, by omega, by go_num, by rw [HSI.out]; simp, by rw [HA.out]; first | rfl | go_num, hid HB3.out⟩
        case measure => simp [intOf]; omega
      | false =>
        go_wp2_with fail
        rw [HW2.out]
        go_wp2_with fail
        refine HC.out.mono ?_
        rintro e w3 ⟨rfl, hb3⟩
        have HB3 := hid (HB2.out.trans (hb3.mono HB2.out.size))
        clear hb3
        go_wp2_with fail
        go_roundw
        case rel => exact ⟨k + 1, by omega, by go_num, by rw [HSI.out]; simp, by rw [HA.out]; first | rfl | go_num, hid HB3.out⟩
        case measure => simp [intOf]; omega
    · have hge : decide ((k : Int) < (n : Int)) = false := by simp; omega
      have HK := hid (show l.take k = l from List.take_of_length_le (by rw [HN.out]; omega))
      rw [HK.out]
      go_wp2
      go_ret2
      exact ⟨rfl, HT.out⟩
end Go.Proofs.YtfpngilmdgeikaaDoor
