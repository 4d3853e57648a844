/-
  What appendPiece does: a piece's bytes behind what the call owns; or which error.
  What Write answers: the bytes of pieces, in new memory; or which error, and where.
  What the document's Write answers: the bytes of pieces, in new memory; or which error, and where.
-/
import Derived.Test.YtfpngilmdgeikaaDoorWireBase
import Derived.Deep.RegionLaw
import Derived.Deep.RegionHeldLaw
import Derived.Test.YtfpngilmdgeikaaDoorFaultMem
namespace Go.Proofs.YtfpngilmdgeikaaDoor
open Go.RowKit

theorem wrap_sub (n : Nat) (h : n ≤ 1000000) : IntKind.i64.wrap (20000 - (n : Int)) = 20000 - (n : Int) := by simp [IntKind.wrap, IntKind.bits, IntKind.signed]; split <;> omega
set_option maxRecDepth 100000 in
set_option maxHeartbeats 2000000 in
theorem appendPiece_any (p : Pc) (l : List (BitVec 8)) (v vb : Value) (base N : Nat) (w : World) (hb : base ≤ w.heap.size) (hown : OwnB w base v l) (hl : l.length ≤ 20000) (hp : p.ok) (hvb : Bytes w N vb p.b) (hN : N ≤ base) (hpl : p.b.length ≤ 140737488351232) :
    Calls Tryd.prog 101 #[v, pcV p vb] w fun e w' => Below base w w' ∧
      ((¬ (p.k = 1 ∨ p.k = 2) ∧ e = .returned (.tuple #[.slice none 0 0, .int .i64 1])) ∨
       ((p.k = 1 ∨ p.k = 2) ∧ 20000 < (l ++ p.wr).length ∧ e = .returned (.tuple #[.slice none 0 0, .int .i64 4])) ∨
       ((p.k = 1 ∨ p.k = 2) ∧ (l ++ p.wr).length ≤ 20000 ∧ ∃ v', e = .returned (.tuple #[v', .int .i64 0]) ∧ OwnB w' base v' (l ++ p.wr))) := by
  obtain ⟨ob, cb, rfl, hcb⟩ := hvb.shape
  obtain ⟨ov, cv, rfl, hcv⟩ := hown.shape
  obtain ⟨w0, hw0⟩ : ∃ w0, w.alloc (.cells #[.int .i64 p.k, .int .u64 (p.n : Int), .slice ob p.b.length cb] 91) = w0 := ⟨_, rfl⟩
  have hsz0 : w0.heap.size = w.heap.size + 1 := by rw [← hw0]; simp
  have hb0 : Below w.heap.size w w0 := by rw [← hw0]; exact (Below.refl _ _).alloc (Nat.le_refl _) _
  have hrow0 : Row w0 w.heap.size 91 [.int .i64 p.k, .int .u64 (p.n : Int), .slice ob p.b.length cb] := by rw [← hw0]; exact Row.new _ _ _
  obtain ⟨c0, c1, c2, z0, z1, z2⟩ := hrow0.three
  have HO := hid (show OwnB w0 base (.slice ov l.length cv) l by rw [← hw0]; exact hown.alloc _)
  have HVB := hid (hvb.below (hb0.mono (Nat.le_trans hN hb)))
  have HB0 := hid hb0
  have HR0 := hid hrow0
  clear hown hvb hb0 hrow0
  unfold pcV
  by_cases hk1 : p.k = 1
  · have e1 : (p.k == 1) = true := by simp [hk1]
    have HK := hid hk1
    clear hk1
    go_enter Tryd.func101, Tryd.ntmps101
    go_wp2_with fail
    have HA1 := hid (show OwnB (w0.alloc (.cells #[.int .u8 0] 5)).drew base (.slice ov l.length cv) l from HO.out.alloc _)
    have HA2 := hid (show Bytes (w0.alloc (.cells #[.int .u8 0] 5)).drew (w0.heap.size + 1) (.slice (some ⟨w.heap.size + 1, 0, none⟩) 1 1) [0] by rw [← hsz0]; exact (bytes_new w0 [0] 5 (0, 0) 1 (by simp)).drewN 1)
    have HA3 := hid (show l.length + [(0 : BitVec 8)].length ≤ 140737488355328 by simp; omega)
    have HA4 := hid (show base ≤ ((w0.alloc (.cells #[.int .u8 0] 5)).drew).heap.size by show base ≤ (w0.alloc (.cells #[.int .u8 0] 5)).heap.size; simp; omega)
    have HA5 := hid (show Row ((w0.alloc (.cells #[.int .u8 0] 5)).drew) w.heap.size 91 [.int .i64 p.k, .int .u64 (p.n : Int), .slice ob p.b.length cb] from (HR0.out.alloc _))
    obtain ⟨l1, hl1⟩ : ∃ l1, l ++ [0] = l1 := ⟨_, rfl⟩
    obtain ⟨l2, hl2⟩ : ∃ l2, l1 ++ numB p.n = l2 := ⟨_, rfl⟩
    have HL1 := hid hl1
    have HL2 := hid hl2
    have hl1l : l1.length ≤ 1000000 := by rw [← hl1]; simp; omega
    have hl2e : l2 = l ++ p.wr := by rw [← hl2, ← hl1]; simp [Pc.wr, HK.out]
    have hl2l : l2.length ≤ 1000000 := by have := numB_ten p.n hp; rw [← hl2, ← hl1]; simp; omega
    have HE2 := hid hl2e
    have HLL := hid hl1l
    clear hl1 hl2 hl2e hl1l
    go_region_law (first
      | (refine step_append_keep rfl (.tmp 11) (.tmp 12) rfl base (.slice ov l.length cv) l ?_ HA1.out (.slice (some ⟨w.heap.size + 1, 0, none⟩) 1 1) [0] ?_ HA2.out HA3.out HA4.out ?_; rfl; rfl; intro v1 w1 hown1 hbe1 hke1; rw [HL1.out] at hown1; obtain ⟨o1, k1, rfl, hk1⟩ := hown1.shape; have HR1 := hid (hke1.row HA5.out (by decide)); have c1' := HR1.out.cell 1; have HO1 := hid hown1; have HBE1 := hid hbe1; have HKE1 := hid hke1; clear hown1 hbe1 hke1)
      | (go_simp; go_at_call 100; refine (appendNumber_any p.n l1 (.slice o1 l1.length k1) base w1 hp (Nat.le_trans HA4.out HBE1.out.size) HO1.out HLL.out).mono ?_; rintro e w2 ⟨v2, rfl, hown2, hbe2, hke2⟩; rw [HL2.out] at hown2; obtain ⟨o2, k2, rfl, hk2⟩ := hown2.shape; have HO2 := hid hown2; have HBE2 := hid (HBE1.out.trans hbe2); have HKE2 := hid (HKE1.out.trans hke2); clear hown2 hbe2 hke2))
    all_goals
      have hws := wrap_sub l2.length hl2l
      have HBZ := hid ((HB0.out.mono hb).trans ((((Below.refl base w0).alloc (show base ≤ w0.heap.size by omega) (.cells #[.int .u8 0] 5)).drew).trans HBE2.out))
      by_cases hbig : 20000 < l2.length
      · have e3 : decide ((20000 : Int) - (l2.length : Int) < 0) = true := by simp; omega
        go_wp2
        go_ret2
        exact ⟨HBZ.out, .inr (.inl ⟨.inl HK.out, by rw [← HE2.out]; exact hbig, rfl⟩)⟩
      · have e3 : decide ((20000 : Int) - (l2.length : Int) < 0) = false := by simp; omega
        have HF1 := hid (show l2.length + ([] : List (BitVec 8)).length ≤ 140737488355328 by simp; omega)
        have HF2 := hid (show base ≤ w2.heap.size from Nat.le_trans hb HBZ.out.size)
        go_wp2_with (at_builtin; refine wpList_append_keep rfl (.tmp 35) (.tmp 36) rfl base _ l2 rfl HO2.out _ [] rfl (N := 0) (.inl ⟨rfl, rfl⟩) HF1.out HF2.out ?_; intro v3 w3 hown3 hbe3 hke3)
        go_ret2
        exact ⟨HBZ.out.trans hbe3, .inr (.inr ⟨.inl HK.out, by rw [← HE2.out]; omega, _, rfl, by rw [← HE2.out]; simpa using hown3⟩)⟩
  · have e1 : (p.k == 1) = false := by simp [hk1]
    have HK1 := hid hk1
    clear hk1
    by_cases hk2 : p.k = 2
    · have e2 : (p.k == 2) = true := by simp [hk2]
      have HK := hid hk2
      clear hk2
      have hwb : IntKind.u64.wrap (p.b.length : Int) = (p.b.length : Int) := wrap64 _ (by omega)
      go_enter Tryd.func101, Tryd.ntmps101
      go_wp2_with fail
      have HA1 := hid (show OwnB (w0.alloc (.cells #[.int .u8 1] 5)).drew base (.slice ov l.length cv) l from HO.out.alloc _)
      have HA2 := hid (show Bytes (w0.alloc (.cells #[.int .u8 1] 5)).drew (w0.heap.size + 1) (.slice (some ⟨w.heap.size + 1, 0, none⟩) 1 1) [1] by rw [← hsz0]; exact (bytes_new w0 [1] 5 (0, 0) 1 (by simp)).drewN 1)
      have HA3 := hid (show l.length + [(1 : BitVec 8)].length ≤ 140737488355328 by simp; omega)
      have HA4 := hid (show base ≤ ((w0.alloc (.cells #[.int .u8 1] 5)).drew).heap.size by show base ≤ (w0.alloc (.cells #[.int .u8 1] 5)).heap.size; simp; omega)
      have HA5 := hid (show Row ((w0.alloc (.cells #[.int .u8 1] 5)).drew) w.heap.size 91 [.int .i64 p.k, .int .u64 (p.n : Int), .slice ob p.b.length cb] from (HR0.out.alloc _))
      obtain ⟨l1, hl1⟩ : ∃ l1, l ++ [1] = l1 := ⟨_, rfl⟩
      obtain ⟨l2, hl2⟩ : ∃ l2, l1 ++ numB p.b.length = l2 := ⟨_, rfl⟩
      have HL1 := hid hl1
      have HL2 := hid hl2
      have hl1l : l1.length ≤ 1000000 := by rw [← hl1]; simp; omega
      have hl2e : l2 ++ p.b = l ++ p.wr := by rw [← hl2, ← hl1]; simp [Pc.wr, HK.out]
      have hl2l : l2.length ≤ 1000000 := by have := numB_ten p.b.length (by omega); rw [← hl2, ← hl1]; simp; omega
      have HE2 := hid hl2e
      have HLL := hid hl1l
      have HPB := hid (show p.b.length < 18446744073709551616 by omega)
      clear hl1 hl2 hl2e hl1l
      go_region_law (first
        | (refine step_append_keep rfl (.tmp 19) (.tmp 20) rfl base (.slice ov l.length cv) l ?_ HA1.out (.slice (some ⟨w.heap.size + 1, 0, none⟩) 1 1) [1] ?_ HA2.out HA3.out HA4.out ?_; rfl; rfl; intro v1 w1 hown1 hbe1 hke1; rw [HL1.out] at hown1; obtain ⟨o1, k1, rfl, hk1⟩ := hown1.shape; have HR1 := hid (hke1.row HA5.out (by decide)); have c2' := HR1.out.cell 2; have HO1 := hid hown1; have HBE1 := hid hbe1; have HKE1 := hid hke1; clear hown1 hbe1 hke1)
        | (go_simp; go_at_call 100; refine (appendNumber_any p.b.length l1 (.slice o1 l1.length k1) base w1 HPB.out (Nat.le_trans HA4.out HBE1.out.size) HO1.out HLL.out).mono ?_; rintro e w2 ⟨v2, rfl, hown2, hbe2, hke2⟩; rw [HL2.out] at hown2; obtain ⟨o2, k2, rfl, hk2⟩ := hown2.shape; have HO2 := hid hown2; have HBE2 := hid (HBE1.out.trans hbe2); have HR2 := hid (hke2.row HR1.out (by decide)); have c2'' := HR2.out.cell 2; clear hown2 hbe2 hke2))
      all_goals
        have hws := wrap_sub l2.length hl2l
        have HBZ0 := hid (((Below.refl base w0).alloc (show base ≤ w0.heap.size by omega) (.cells #[.int .u8 1] 5)).drew.trans HBE2.out)
        have HBZ := hid ((HB0.out.mono hb).trans HBZ0.out)
        have HVB2 := hid (HVB.out.below (HBZ0.out.mono hN))
        by_cases hbig : 20000 < l2.length + p.b.length
        · have e3 : decide ((20000 : Int) - (l2.length : Int) < (p.b.length : Int)) = true := by simp; omega
          go_wp2
          go_ret2
          exact ⟨HBZ.out, .inr (.inl ⟨.inr HK.out, by rw [← HE2.out, List.length_append]; exact hbig, rfl⟩)⟩
        · have e3 : decide ((20000 : Int) - (l2.length : Int) < (p.b.length : Int)) = false := by simp; omega
          have HF1 := hid (show l2.length + p.b.length ≤ 140737488355328 by omega)
          have HF2 := hid (show base ≤ w2.heap.size from Nat.le_trans hb HBZ.out.size)
          go_wp2_with (at_builtin; refine wpList_append_keep rfl (.tmp 35) (.tmp 36) rfl base _ l2 rfl HO2.out _ p.b rfl HVB2.out HF1.out HF2.out ?_; intro v3 w3 hown3 hbe3 hke3)
          go_ret2
          exact ⟨HBZ.out.trans hbe3, .inr (.inr ⟨.inr HK.out, by rw [← HE2.out, List.length_append]; omega, _, rfl, by rw [← HE2.out]; exact hown3⟩)⟩
    · have e2 : (p.k == 2) = false := by simp [hk2]
      have HK2 := hid hk2
      clear hk2
      go_enter Tryd.func101, Tryd.ntmps101
      go_wp2
      go_ret2
      exact ⟨HB0.out.mono hb, .inl ⟨by rintro (h | h); exact HK1.out h; exact HK2.out h, rfl⟩⟩
end Go.Proofs.YtfpngilmdgeikaaDoor
namespace Go.Proofs.YtfpngilmdgeikaaDoor
open Go.RowKit

theorem wrGo_cons (k : Nat) (m : List (BitVec 8)) (l : List Pc) (p : Pc) (h : l[k]? = some p) : wrGo k m (l.drop k) =
    if p.k ≠ 1 ∧ p.k ≠ 2 then .error (1, k) else if 20000 < (m ++ p.wr).length then .error (4, k) else wrGo (k + 1) (m ++ p.wr) (l.drop (k + 1)) := by
  obtain ⟨hk, he⟩ := List.getElem?_eq_some_iff.1 h
  rw [List.drop_eq_getElem_cons hk, wrGo, he]
theorem OwnB.set2 {w : World} {base g : Nat} {v : Value} {l : List (BitVec 8)} (h : OwnB w base v l) (hg : g < base) (x y : Value) : OwnB ((w.setCell ⟨g, 0, none⟩ x).setCell ⟨g, 1, none⟩ y) base v l :=
  h.keep fun k hk => by rw [heap_setCell_other _ _ _ _ (show k ≠ g by omega), heap_setCell_other _ _ _ _ (show k ≠ g by omega)]

set_option maxRecDepth 100000 in
set_option maxHeartbeats 2000000 in
theorem write_any (l : List Pc) (sv : Value) (N : Nat) (w : World) (hb : Pieces w N sv l) (hN : N ≤ w.heap.size) (hlen : l.length < 2305843009213693952) (hfit : ∀ p ∈ l, p.fits) :
    Calls Tryd.prog 54 #[sv] w fun e w' => Below w.heap.size w w' ∧
      ((∃ x v, wrAll l = .ok x ∧ e = .returned (.tuple #[v, okV]) ∧ OwnB w' w.heap.size v x) ∨
       ∃ c i, wrAll l = .error (c, i) ∧ e = .returned (.tuple #[.slice none 0 0, faultV c i])) := by
  obtain ⟨oa, ca, rfl, hca⟩ := hb.shape
  obtain ⟨w0, hw0⟩ : ∃ w0, w.alloc (.cells #[.int .i64 0, .int .i64 0] 94) = w0 := ⟨_, rfl⟩
  have hsz0 : w0.heap.size = w.heap.size + 1 := by rw [← hw0]; simp
  have hb0 : Below w.heap.size w w0 := by rw [← hw0]; exact (Below.refl _ _).alloc (Nat.le_refl _) _
  have hrow0 : Row w0 w.heap.size 94 [.int .i64 0, .int .i64 0] := by rw [← hw0]; exact Row.new _ _ _
  have HB := hid (hb.below (hb0.mono hN))
  have HB0 := hid hb0
  have HR0 := hid hrow0
  have HFIT := hid hfit
  clear hb hb0 hrow0 hfit
  generalize hn : l.length = n at *
  have HN := hid hn
  clear hn
  by_cases hmany : 200 < n
  · have e1 : decide ((200 : Int) < (n : Int)) = true := by simp; omega
    obtain ⟨c0, c1, z0, z1⟩ := HR0.out.two
    go_enter Tryd.func54, Tryd.ntmps54
    go_wp2
    obtain ⟨d0, d1⟩ := HR0.out.set2 (.int .i64 5) (.int .i64 0)
    refine bodyPost_ret (v := .tuple #[.slice none 0 0, faultV 5 0]) (by simp [results, Tryd.results54, go_sem, d0, d1, faultV]) rfl ⟨?_, .inr ⟨5, 0, by unfold wrAll; rw [HN.out, if_pos hmany], rfl⟩⟩
    exact below_set2 HB0.out (Nat.le_refl _) _ _
  · have e1 : decide ((200 : Int) < (n : Int)) = false := by simp; omega
    have hwn : IntKind.u64.wrap (n : Int) = (n : Int) := wrap64 _ (by omega)
    have HAN := hid (appendNumber_any n [] (.slice none 0 0) w0.heap.size w0 (by omega) (Nat.le_refl _) (OwnB.nil _ _) (by simp))
    go_enter Tryd.func54, Tryd.ntmps54
    go_wp2_with fail
    refine HAN.out.mono ?_
    rintro e w1 ⟨v1, rfl, hown1, hb1, _⟩
    have HS := hid (show OwnB w1 w0.heap.size v1 (numB n) ∧ Below w0.heap.size w0 w1 from ⟨hown1, hb1⟩)
    clear hown1 hb1 HAN hw0
    go_wp2_with fail
    go_loopw [4, 18] (fun y i wr => ∃ (k : Nat) (m : List (BitVec 8)), k ≤ n ∧ m.length ≤ 20000 ∧ i = .int .i64 (k : Int) ∧ Hid (OwnB wr w0.heap.size y m ∧ Below w0.heap.size w0 wr ∧ wrAll l = wrGo k m (l.drop k))) (fun _ i _ => n - (intOf i).toNat)
    case atStart => exact ⟨0, numB n, by omega, by have := numB_ten n (by omega); omega, rfl, HS.out.1, HS.out.2, by unfold wrAll; rw [HN.out, if_neg hmany]; rfl⟩
    case round =>
      obtain ⟨k, m, hk, hm, rfl, HR⟩ := hrel
      obtain ⟨oy, cy, rfl, hcy⟩ := HR.out.1.shape
      by_cases hlt : k < n
      · obtain ⟨p, hp⟩ : ∃ p, l[k]? = some p := ⟨l[k]'(by rw [HN.out]; exact hlt), List.getElem?_eq_getElem _⟩
        obtain ⟨b, o, rfl, hcells⟩ := HB.out.some (by omega)
        obtain ⟨hbN, vb, d0, d1, d2, hvb⟩ := hcells k p hp
        obtain ⟨ob, cb, rfl, hcb⟩ := hvb.shape
        have hbl : b < w0.heap.size := by omega
        have f0 := (HR.out.2.1.cell (p := ⟨b, o + k * 3, none⟩) hbl).trans d0
        have f1 := (HR.out.2.1.cell (p := ⟨b, o + k * 3 + 1, none⟩) hbl).trans d1
        have f2 := (HR.out.2.1.cell (p := ⟨b, o + k * 3 + 2, none⟩) hbl).trans d2
        have hszr := HR.out.2.1.size
        have hfp := HFIT.out p (List.mem_of_getElem? hp)
        have HVB := hid (hvb.below (HR.out.2.1.mono (show N ≤ w0.heap.size by omega)))
        have HWG := hid (wrGo_cons k m l p hp)
        obtain ⟨w2, hw2⟩ : ∃ w2, wr.alloc (.cells #[.int .i64 p.k, .int .u64 (p.n : Int), .slice ob p.b.length cb] 91) = w2 := ⟨_, rfl⟩
        have hb2 : Below w0.heap.size wr w2 := by rw [← hw2]; exact (Below.refl _ _).alloc hszr _
        have hown2 : OwnB w2 w0.heap.size (.slice oy m.length cy) m := by rw [← hw2]; exact HR.out.1.alloc _
        have HAP := hid (appendPiece_any p m (.slice oy m.length cy) (.slice ob p.b.length cb) w0.heap.size N w2 (Nat.le_trans hszr hb2.size) hown2 hm hfp.1 (HVB.out.below (hb2.mono (by omega))) (by omega) hfp.2)
        have HB2 := hid (HR.out.2.1.trans hb2)
        have HW2 := hid hw2
        unfold pcV at HAP
        clear d0 d1 d2 hvb hcells hb2 hown2 hfp hp hw2
        have hlt' : (k : Int) < (n : Int) := by omega
        go_wp2_with fail
        rw [HW2.out]
        refine HAP.out.mono ?_
        rintro e w3 ⟨hb3, ⟨hkk, rfl⟩ | ⟨hkk, hbig, rfl⟩ | ⟨hkk, hsm, v', rfl, hown3⟩⟩
        · have HB3 := hid (HB2.out.trans hb3)
          have HR3 := hid (HR0.out.below HB3.out (by omega))
          obtain ⟨c0, c1, z0, z1⟩ := HR3.out.two
          go_wp2
          obtain ⟨d0, d1⟩ := HR3.out.set2 (.int .i64 1) (.int .i64 (k : Int))
          refine bodyPost_ret (v := .tuple #[.slice none 0 0, faultV 1 k]) (by simp [results, Tryd.results54, go_sem, d0, d1, faultV]) rfl ⟨?_, .inr ⟨1, k, by rw [HR.out.2.2, HWG.out, if_pos (by omega)], rfl⟩⟩
          exact below_set2 (HB0.out.trans (HB3.out.mono (by omega))) (Nat.le_refl _) _ _
        · have HB3 := hid (HB2.out.trans hb3)
          have HR3 := hid (HR0.out.below HB3.out (by omega))
          obtain ⟨c0, c1, z0, z1⟩ := HR3.out.two
          have HBIG := hid hbig
          clear hbig
          go_wp2
          obtain ⟨d0, d1⟩ := HR3.out.set2 (.int .i64 4) (.int .i64 (k : Int))
          refine bodyPost_ret (v := .tuple #[.slice none 0 0, faultV 4 k]) (by simp [results, Tryd.results54, go_sem, d0, d1, faultV]) rfl ⟨?_, .inr ⟨4, k, by rw [HR.out.2.2, HWG.out, if_neg (by omega), if_pos HBIG.out], rfl⟩⟩
          exact below_set2 (HB0.out.trans (HB3.out.mono (by omega))) (Nat.le_refl _) _ _
        · have HB3 := hid (HB2.out.trans hb3)
          have HO3 := hid hown3
          have HSM := hid hsm
          clear hown3 hb3 hsm
          go_wp2_with fail
          refine ⟨⟨k + 1, m ++ p.wr, by omega, HSM.out, by go_num, HO3.out, HB3.out, ?_⟩, by simp [intOf]; omega⟩
          rw [HR.out.2.2, HWG.out, if_neg (by omega), if_neg (by have := HSM.out; omega)]
      · have hge : decide ((k : Int) < (n : Int)) = false := by simp; omega
        have HR3 := hid (HR0.out.below HR.out.2.1 (by omega))
        obtain ⟨c0, c1, z0, z1⟩ := HR3.out.two
        go_wp2
        obtain ⟨d0, d1⟩ := HR3.out.set2 (.int .i64 0) (.int .i64 0)
        refine bodyPost_ret (v := .tuple #[.slice oy m.length cy, okV]) (by simp [results, Tryd.results54, go_sem, d0, d1, okV]) rfl ⟨?_, .inl ⟨m, _, by rw [HR.out.2.2, List.drop_eq_nil_of_le (by rw [HN.out]; omega), wrGo], rfl, ?_⟩⟩
        · exact below_set2 (HB0.out.trans (HR.out.2.1.mono (by omega))) (Nat.le_refl _) _ _
        · exact (OwnB.set2 HR.out.1 (show w.heap.size < w0.heap.size by omega) _ _).mono (by omega)
end Go.Proofs.YtfpngilmdgeikaaDoor
namespace Go.Proofs.YtfpngilmdgeikaaDoor
open Go.RowKit

set_option maxRecDepth 100000 in
set_option maxHeartbeats 4000000 in
theorem refWrite_any (l : List Pc) (sv : Value) (N : Nat) (w : World) (hb : Pieces w N sv l) (hN : N ≤ w.heap.size) (hlen : l.length < 2305843009213693952) (hfit : ∀ p ∈ l, p.fits) :
    Calls Tryd.prog 108 #[sv] w fun e w' => Below w.heap.size w w' ∧
      ((∃ x v, wrAll l = .ok x ∧ e = .returned (.tuple #[v, okV]) ∧ OwnB w' w.heap.size v x) ∨
       ∃ c i, wrAll l = .error (c, i) ∧ e = .returned (.tuple #[.slice none 0 0, faultV c i])) := by
  obtain ⟨oa, ca, rfl, hca⟩ := hb.shape
  obtain ⟨w0, hw0⟩ : ∃ w0, w.alloc (.cells #[.int .i64 0, .int .i64 0] 94) = w0 := ⟨_, rfl⟩
  have hsz0 : w0.heap.size = w.heap.size + 1 := by rw [← hw0]; simp
  have hb0 : Below w.heap.size w w0 := by rw [← hw0]; exact (Below.refl _ _).alloc (Nat.le_refl _) _
  have hrow0 : Row w0 w.heap.size 94 [.int .i64 0, .int .i64 0] := by rw [← hw0]; exact Row.new _ _ _
  have HB := hid (hb.below (hb0.mono hN))
  have HB0 := hid hb0
  have HR0 := hid hrow0
  have HFIT := hid hfit
  clear hb hb0 hrow0 hfit
  generalize hn : l.length = n at *
  have HN := hid hn
  clear hn
  by_cases hmany : 200 < n
  · have e1 : decide ((200 : Int) < (n : Int)) = true := by simp; omega
    obtain ⟨c0, c1, z0, z1⟩ := HR0.out.two
    go_enter Tryd.func108, Tryd.ntmps108
    go_wp2
    obtain ⟨d0, d1⟩ := HR0.out.set2 (.int .i64 5) (.int .i64 0)
    refine bodyPost_ret (v := .tuple #[.slice none 0 0, faultV 5 0]) (by simp [results, Tryd.results108, go_sem, d0, d1, faultV]) rfl ⟨?_, .inr ⟨5, 0, by unfold wrAll; rw [HN.out, if_pos hmany], rfl⟩⟩
    exact below_set2 HB0.out (Nat.le_refl _) _ _
  · have e1 : decide ((200 : Int) < (n : Int)) = false := by simp; omega
    have hwn : IntKind.u64.wrap (n : Int) = (n : Int) := wrap64 _ (by omega)
    have HAN := hid (refNum_any n w0 (by omega))
    go_enter Tryd.func108, Tryd.ntmps108
    go_wp2_with fail
    refine HAN.out.mono ?_
    rintro e w1 ⟨v1, rfl, hown1, hb1⟩
    have HS := hid (show OwnB w1 w0.heap.size v1 (numB n) ∧ Below w0.heap.size w0 w1 from ⟨hown1, hb1⟩)
    clear hown1 hb1 HAN hw0
    go_wp2_with fail
    go_loopw [4, 17] (fun y i wr => ∃ (k : Nat) (m : List (BitVec 8)), k ≤ n ∧ m.length ≤ 20000 ∧ i = .int .i64 (k : Int) ∧ Hid (OwnB wr w0.heap.size y m ∧ Below w0.heap.size w0 wr ∧ wrAll l = wrGo k m (l.drop k))) (fun _ i _ => n - (intOf i).toNat)
    case atStart => exact ⟨0, numB n, by omega, by have := numB_ten n (by omega); omega, rfl, HS.out.1, HS.out.2, by unfold wrAll; rw [HN.out, if_neg hmany]; rfl⟩
    case round =>
      obtain ⟨k, m, hk, hm, rfl, HR⟩ := hrel
      obtain ⟨ov, cv, rfl, hcv⟩ := HR.out.1.shape
      by_cases hlt : k < n
      · obtain ⟨p, hp⟩ : ∃ p, l[k]? = some p := ⟨l[k]'(by rw [HN.out]; exact hlt), List.getElem?_eq_getElem _⟩
        obtain ⟨b, o, rfl, hcells⟩ := HB.out.some (by omega)
        obtain ⟨hbN, vb, d0, d1, d2, hvb⟩ := hcells k p hp
        obtain ⟨ob, cb, rfl, hcb⟩ := hvb.shape
        have hbl : b < w0.heap.size := by omega
        have f0 := (HR.out.2.1.cell (p := ⟨b, o + k * 3, none⟩) hbl).trans d0
        have f1 := (HR.out.2.1.cell (p := ⟨b, o + k * 3 + 1, none⟩) hbl).trans d1
        have f2 := (HR.out.2.1.cell (p := ⟨b, o + k * 3 + 2, none⟩) hbl).trans d2
        have hszr := HR.out.2.1.size
        have hfp := HFIT.out p (List.mem_of_getElem? hp)
        have hpk : p.n < 18446744073709551616 := hfp.1
        have hpl := hfp.2
        have HWG := hid (wrGo_cons k m l p hp)
        obtain ⟨w2, hw2⟩ : ∃ w2, wr.alloc (.cells #[.int .i64 p.k, .int .u64 (p.n : Int), .slice ob p.b.length cb] 91) = w2 := ⟨_, rfl⟩
        have hsz2 : w2.heap.size = wr.heap.size + 1 := by rw [← hw2]; simp
        have hb2 : Below w0.heap.size wr w2 := by rw [← hw2]; exact (Below.refl _ _).alloc hszr _
        have hrow2 : Row w2 wr.heap.size 91 [.int .i64 p.k, .int .u64 (p.n : Int), .slice ob p.b.length cb] := by rw [← hw2]; exact Row.new _ _ _
        obtain ⟨q0, q1, q2, _, _, _⟩ := hrow2.three
        have HO2 := hid (show OwnB w2 w0.heap.size (.slice ov m.length cv) m by rw [← hw2]; exact HR.out.1.alloc _)
        have HB2 := hid (HR.out.2.1.trans hb2)
        have HVB2 := hid (hvb.below (HB2.out.mono (show N ≤ w0.heap.size by omega)))
        have HR2 := hid hrow2
        have HW2 := hid hw2
        clear d0 d1 d2 hvb hcells hb2 hrow2 hfp hp hw2
        have hlt' : (k : Int) < (n : Int) := by omega
        by_cases hk1 : p.k = 1
        · have e1' : (p.k == 1) = true := by simp [hk1]
          have HK := hid hk1
          clear hk1
          have HA1 := hid (show OwnB (w2.alloc (.cells #[.int .u8 0] 5)).drew w0.heap.size (.slice ov m.length cv) m from HO2.out.alloc _)
          have HA2 := hid (show Bytes (w2.alloc (.cells #[.int .u8 0] 5)).drew (w2.heap.size + 1) (.slice (some ⟨wr.heap.size + 1, 0, none⟩) 1 1) [0] by rw [← hsz2]; exact (bytes_new w2 [0] 5 (0, 0) 1 (by simp)).drewN 1)
          have HA3 := hid (show m.length + [(0 : BitVec 8)].length ≤ 140737488355328 by simp; omega)
          have HA4 := hid (show w0.heap.size ≤ ((w2.alloc (.cells #[.int .u8 0] 5)).drew).heap.size by show w0.heap.size ≤ (w2.alloc (.cells #[.int .u8 0] 5)).heap.size; simp; omega)
          have HA5 := hid (show Row ((w2.alloc (.cells #[.int .u8 0] 5)).drew) wr.heap.size 91 [.int .i64 p.k, .int .u64 (p.n : Int), .slice ob p.b.length cb] from (HR2.out.alloc _))
          obtain ⟨l1, hl1⟩ : ∃ l1, m ++ [0] = l1 := ⟨_, rfl⟩
          obtain ⟨l2, hl2⟩ : ∃ l2, l1 ++ numB p.n = l2 := ⟨_, rfl⟩
          have HL1 := hid hl1
          have HL2 := hid hl2
          have hl1l : l1.length ≤ 1000000 := by rw [← hl1]; simp; omega
          have hl2e : l2 = m ++ p.wr := by rw [← hl2, ← hl1]; simp [Pc.wr, HK.out]
          have hl2l : l2.length ≤ 1000000 := by have := numB_ten p.n hpk; rw [← hl2, ← hl1]; simp; omega
          have HE2 := hid hl2e
          have HLL := hid (show l1.length + (numB p.n).length ≤ 140737488355328 by have := numB_ten p.n hpk; omega)
          have HPK := hid hpk
          clear hl1 hl2 hl2e hl1l hpk
          go_wp2_with fail
          rw [HW2.out]
          go_region_law (first
            | (refine step_append_keep rfl (.tmp 28) (.tmp 29) rfl w0.heap.size (.slice ov m.length cv) m ?_ HA1.out (.slice (some ⟨wr.heap.size + 1, 0, none⟩) 1 1) [0] ?_ HA2.out HA3.out HA4.out ?_; rfl; rfl; intro v1 w3 hown1 hbe1 hke1; rw [HL1.out] at hown1; obtain ⟨o1, k1, rfl, hk1⟩ := hown1.shape; have HR1 := hid (hke1.row HA5.out (by decide)); have c1' := HR1.out.cell 1; have HO1 := hid hown1; have HBE1 := hid hbe1; clear hown1 hbe1 hke1)
            | (go_simp; go_at_call 147; refine (refNum_any p.n w3 HPK.out).mono ?_; rintro e w4 ⟨v2, rfl, hown2, hbe2⟩; obtain ⟨o2, k2, rfl, hk2⟩ := hown2.shape; have HN2 := hid hown2.bytes; have HO2' := hid (HO1.out.below hbe2); have HBE2 := hid (HBE1.out.trans (hbe2.mono (Nat.le_trans HA4.out HBE1.out.size))); have HSZ4 := hid (Nat.le_trans HA4.out HBE2.out.size); clear hown2 hbe2)
            | (refine step_append_keep rfl (.tmp 30) (.tmp 33) rfl w0.heap.size (.slice o1 l1.length k1) l1 ?_ HO2'.out (.slice o2 (numB p.n).length k2) (numB p.n) ?_ HN2.out HLL.out HSZ4.out ?_; rfl; rfl; intro v3 w5 hown3 hbe3 hke3; rw [HL2.out] at hown3; obtain ⟨o3, k3, rfl, hk3⟩ := hown3.shape; have HO3 := hid hown3; have HBE3 := hid (HBE2.out.trans hbe3); clear hown3 hbe3 hke3))
          all_goals
            have HBZ := hid (HB2.out.trans ((((Below.refl w0.heap.size w2).alloc (show w0.heap.size ≤ w2.heap.size by omega) (.cells #[.int .u8 0] 5)).drew).trans HBE3.out))
            by_cases hbig : 20000 < l2.length
            · have e3 : decide ((20000 : Int) < (l2.length : Int)) = true := by simp; omega
              have HR3 := hid (HR0.out.below HBZ.out (by omega))
              obtain ⟨c0, c1, z0, z1⟩ := HR3.out.two
              go_wp2
              obtain ⟨d0, d1⟩ := HR3.out.set2 (.int .i64 4) (.int .i64 (k : Int))
              refine bodyPost_ret (v := .tuple #[.slice none 0 0, faultV 4 k]) (by simp [results, Tryd.results108, go_sem, d0, d1, faultV]) rfl ⟨?_, .inr ⟨4, k, by rw [HR.out.2.2, HWG.out, if_neg (by have := HK.out; omega), if_pos (by rw [← HE2.out]; exact hbig)], rfl⟩⟩
              exact below_set2 (HB0.out.trans (HBZ.out.mono (by omega))) (Nat.le_refl _) _ _
            · have e3 : decide ((20000 : Int) < (l2.length : Int)) = false := by simp; omega
              go_wp2_with fail
              refine ⟨⟨k + 1, l2, by omega, by omega, by go_num, HO3.out, HBZ.out, ?_⟩, by simp [intOf]; omega⟩
              rw [HR.out.2.2, HWG.out, if_neg (by have := HK.out; omega), if_neg (by rw [← HE2.out]; omega), ← HE2.out]
        · have e1' : (p.k == 1) = false := by simp [hk1]
          by_cases hk2 : p.k = 2
          · have e2' : (p.k == 2) = true := by simp [hk2]
            have HK := hid hk2
            clear hk1 hk2
            have hwb : IntKind.u64.wrap (p.b.length : Int) = (p.b.length : Int) := wrap64 _ (by omega)
            have HA1 := hid (show OwnB (w2.alloc (.cells #[.int .u8 1] 5)).drew w0.heap.size (.slice ov m.length cv) m from HO2.out.alloc _)
            have HA2 := hid (show Bytes (w2.alloc (.cells #[.int .u8 1] 5)).drew (w2.heap.size + 1) (.slice (some ⟨wr.heap.size + 1, 0, none⟩) 1 1) [1] by rw [← hsz2]; exact (bytes_new w2 [1] 5 (0, 0) 1 (by simp)).drewN 1)
            have HA3 := hid (show m.length + [(1 : BitVec 8)].length ≤ 140737488355328 by simp; omega)
            have HA4 := hid (show w0.heap.size ≤ ((w2.alloc (.cells #[.int .u8 1] 5)).drew).heap.size by show w0.heap.size ≤ (w2.alloc (.cells #[.int .u8 1] 5)).heap.size; simp; omega)
            have HA5 := hid (show Row ((w2.alloc (.cells #[.int .u8 1] 5)).drew) wr.heap.size 91 [.int .i64 p.k, .int .u64 (p.n : Int), .slice ob p.b.length cb] from (HR2.out.alloc _))
            have HA6 := hid (((Below.refl w0.heap.size w2).alloc (show w0.heap.size ≤ w2.heap.size by omega) (.cells #[.int .u8 1] 5)).drew)
            obtain ⟨l1, hl1⟩ : ∃ l1, m ++ [1] = l1 := ⟨_, rfl⟩
            obtain ⟨l2, hl2⟩ : ∃ l2, l1 ++ numB p.b.length = l2 := ⟨_, rfl⟩
            have HPK := hid (show p.b.length < 18446744073709551616 by omega)
            have HL1 := hid hl1
            have HL2 := hid hl2
            have hl1l : l1.length ≤ 1000000 := by rw [← hl1]; simp; omega
            have hl2e : l2 ++ p.b = m ++ p.wr := by rw [← hl2, ← hl1]; simp [Pc.wr, HK.out]
            have hl2l : l2.length ≤ 1000000 := by have := numB_ten p.b.length HPK.out; rw [← hl2, ← hl1]; simp; omega
            have HE2 := hid hl2e
            have HLL := hid (show l1.length + (numB p.b.length).length ≤ 140737488355328 by have := numB_ten p.b.length HPK.out; omega)
            have HL2L := hid hl2l
            have HPL := hid (show p.b.length ≤ 140737488355328 by omega)
            have HNB := hid (show N ≤ w0.heap.size by omega)
            clear hl1 hl2 hl2e hl1l
            go_wp2_with fail
            rw [HW2.out]
            have s0 : w2.drew.cell? ⟨wr.heap.size, 2, none⟩ = some (.slice ob p.b.length cb) := q2
            have s1 : (w2.alloc (.cells #[.int .u8 1] 5)).drew.cell? ⟨wr.heap.size, 2, none⟩ = some (.slice ob p.b.length cb) := HA5.out.cell 2
            go_region_held3 (fun wx => wx.cell? ⟨wr.heap.size, 2, none⟩ = some (.slice ob p.b.length cb)) (first | assumption) (first
              | (refine step_append_keep rfl (.tmp 37) (.tmp 38) rfl w0.heap.size (.slice ov m.length cv) m ?_ HA1.out (.slice (some ⟨wr.heap.size + 1, 0, none⟩) 1 1) [1] ?_ HA2.out HA3.out HA4.out ?_; rfl; rfl; intro v1 w3 hown1 hbe1 hke1; rw [HL1.out] at hown1; obtain ⟨o1, k1, rfl, hk1⟩ := hown1.shape; have HR1 := hid (hke1.row HA5.out (by decide)); have c2' := HR1.out.cell 2; have HO1 := hid hown1; have HBE1 := hid hbe1; clear hown1 hbe1 hke1)
              | (go_at_call 147; refine (refNum_any p.b.length w3 HPK.out).mono ?_; rintro e w4 ⟨v2, rfl, hown2, hbe2⟩; obtain ⟨o2, k2, rfl, hk2⟩ := hown2.shape; have HN2 := hid hown2.bytes; have HO2' := hid (HO1.out.below hbe2); have HR4 := hid (HR1.out.below hbe2 HR1.out.lt); have c3' := HR4.out.cell 2; have HBE2 := hid (HBE1.out.trans (hbe2.mono (Nat.le_trans HA4.out HBE1.out.size))); have HSZ4 := hid (Nat.le_trans HA4.out HBE2.out.size); clear hown2 hbe2)
              | (refine step_append_keep rfl (.tmp 39) (.tmp 44) rfl w0.heap.size (.slice o1 l1.length k1) l1 ?_ HO2'.out (.slice o2 (numB p.b.length).length k2) (numB p.b.length) ?_ HN2.out HLL.out HSZ4.out ?_; rfl; rfl; intro v3 w5 hown3 hbe3 hke3; rw [HL2.out] at hown3; obtain ⟨o3, k3, rfl, hk3⟩ := hown3.shape; have HO3 := hid hown3; have HBE3 := hid (HBE2.out.trans hbe3); have HR5 := hid (hke3.row HR4.out (by decide)); have c4' := HR5.out.cell 2; have HVB5 := hid (HVB2.out.below ((HA6.out.trans HBE3.out).mono HNB.out)); have HSZ5 := hid (Nat.le_trans HA4.out HBE3.out.size); clear hown3 hbe3 hke3)
              | (refine step_append_over rfl (.tmp 45) (.tmp 47) rfl w0.heap.size (.slice o3 l2.length k3) l2 ?_ HO3.out (.slice ob p.b.length cb) p.b ?_ HVB5.out HL2L.out HPL.out HSZ5.out ?_; rfl; rfl; intro o6 k6 w6 hbe6 hke6 hown6; have s6 := (hke6.row HR5.out (by decide)).cell 2; have HBE6 := hid (HBE3.out.trans hbe6); have HO6 := hid hown6; clear hbe6 hown6 hke6))
            all_goals
              have HBZ := hid (HB2.out.trans (HA6.out.trans HBE6.out))
              generalize hL : l2.length + p.b.length = L at *
              have HL := hid hL
              by_cases hbig : 20000 < L
              · have e3 : decide ((20000 : Int) < (L : Int)) = true := by simp; omega
                have HR3 := hid (HR0.out.below HBZ.out (by omega))
                obtain ⟨c0, c1, z0, z1⟩ := HR3.out.two
                clear hL
                go_wp2
                obtain ⟨d0, d1⟩ := HR3.out.set2 (.int .i64 4) (.int .i64 (k : Int))
                refine bodyPost_ret (v := .tuple #[.slice none 0 0, faultV 4 k]) (by simp [results, Tryd.results108, go_sem, d0, d1, faultV]) rfl ⟨?_, .inr ⟨4, k, by rw [HR.out.2.2, HWG.out, if_neg (by have := HK.out; omega), if_pos (by rw [← HE2.out, List.length_append, HL.out]; exact hbig)], rfl⟩⟩
                exact below_set2 (HB0.out.trans (HBZ.out.mono (by omega))) (Nat.le_refl _) _ _
              · have e3 : decide ((20000 : Int) < (L : Int)) = false := by simp; omega
                have HO7 := hid (HO6.out (by omega))
                clear hL HO6
                go_wp2_with fail
                refine ⟨⟨k + 1, l2 ++ p.b, by omega, by rw [List.length_append, HL.out]; omega, by go_num, HO7.out, HBZ.out, ?_⟩, by simp [intOf]; omega⟩
                rw [HR.out.2.2, HWG.out, if_neg (by have := HK.out; omega), if_neg (by rw [← HE2.out, List.length_append, HL.out]; omega), ← HE2.out]
          · have e2' : (p.k == 2) = false := by simp [hk2]
            have HR3 := hid (HR0.out.below HR.out.2.1 (by omega))
            obtain ⟨c0, c1, z0, z1⟩ := HR3.out.two
            have HKK := hid (show p.k ≠ 1 ∧ p.k ≠ 2 from ⟨hk1, hk2⟩)
            have hlt0 : w.heap.size < wr.heap.size := by omega
            have hne0 : w.heap.size ≠ wr.heap.size := by omega
            have hne1 : wr.heap.size ≠ w.heap.size := by omega
            clear hk1 hk2
            go_wp2_with fail
            have hrw := ((HR3.out.set 0 (.int .i64 1)).set 1 (.int .i64 (k : Int))).alloc (.cells #[.int .i64 p.k, .int .u64 (p.n : Int), .slice ob p.b.length cb] 91)
            have d0 := hrw.cell 0
            have d1 := hrw.cell 1
            refine bodyPost_ret (v := .tuple #[.slice none 0 0, faultV 1 k]) (by simp [results, Tryd.results108, go_sem, d0, d1, faultV]) rfl ⟨?_, .inr ⟨1, k, by rw [HR.out.2.2, HWG.out, if_pos HKK.out], rfl⟩⟩
            exact (below_set2 (HB0.out.trans (HR.out.2.1.mono (by omega))) (Nat.le_refl _) _ _).alloc (by simp; omega) _
      · have hge : decide ((k : Int) < (n : Int)) = false := by simp; omega
        have HR3 := hid (HR0.out.below HR.out.2.1 (by omega))
        obtain ⟨c0, c1, z0, z1⟩ := HR3.out.two
        go_wp2
        obtain ⟨d0, d1⟩ := HR3.out.set2 (.int .i64 0) (.int .i64 0)
        refine bodyPost_ret (v := .tuple #[.slice ov m.length cv, okV]) (by simp [results, Tryd.results108, go_sem, d0, d1, okV]) rfl ⟨?_, .inl ⟨m, _, by rw [HR.out.2.2, List.drop_eq_nil_of_le (by rw [HN.out]; omega), wrGo], rfl, ?_⟩⟩
        · exact below_set2 (HB0.out.trans (HR.out.2.1.mono (by omega))) (Nat.le_refl _) _ _
        · exact (OwnB.set2 HR.out.1 (show w.heap.size < w0.heap.size by omega) _ _).mono (by omega)
end Go.Proofs.YtfpngilmdgeikaaDoor
