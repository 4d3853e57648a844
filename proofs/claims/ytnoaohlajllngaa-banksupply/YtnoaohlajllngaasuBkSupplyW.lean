/-
  BankSupply: the walk.
-/
import Derived.Test.YtnoaohlajllngaasuBkLaw
namespace Go.Proofs.Ytnoaohlajllngaa
open Go.RowKit

set_option maxRecDepth 100000 in
set_option maxHeartbeats 4000000 in
theorem supMove (l : List Pu) (a b d : ByteArray) (n : Nat) (sv : Value) (N : Nat) (w : World) {g0 g1 g2 g3 g4 : Nat} (h0 : Row w g0 22 [sv]) (h1 : Row w g1 9 [.string a]) (h2 : Row w g2 9 [.string b]) (h3 : Row w g3 9 [.string d]) (h4 : Row w g4 23 [.int .u64 (n : Int)]) (hN : N ≤ w.heap.size) (hl : Many PuR 3 w N sv l) (hr : RightU l) (hlen : l.length ≤ 60) (hn : n < 18446744073709551616) :
    Calls Try.prog 10 #[.pointer (some ⟨g0, 0, none⟩), .pointer (some ⟨g1, 0, none⟩), .pointer (some ⟨g2, 0, none⟩), .pointer (some ⟨g3, 0, none⟩), .pointer (some ⟨g4, 0, none⟩)] w fun e w' => Below w.heap.size w w' ∧ ∃ v, e = .returned (.tuple #[v, .int .i64 (moveE l a b d n)]) ∧ Many PuR 3 w' w'.heap.size v (moveL l a b d n) := by
  have HC := hid (move_any l a b d n sv N w hN hl hr hlen hn)
  obtain ⟨oa, ca, rfl, -⟩ := hl.shape
  have k0 := h0.k1
  have k1 := h1.k1
  have k2 := h2.k1
  have k3 := h3.k1
  have k4 := h4.k1
  clear hl hr hlen h0 h1 h2 h3 h4
  generalize l.length = m at *
  go_enter Try.func10, Try.ntmps10
  go_wp2_with fail
  refine HC.out.mono ?_
  rintro e w1 ⟨hb1, v, rfl, hv⟩
  have HV := hid hv
  have HB1 := hid hb1
  clear hb1 hv
  go_wp2
  go_ret2
  exact ⟨HB1.out, v, rfl, HV.out⟩
set_option maxRecDepth 100000 in
set_option maxHeartbeats 4000000 in
theorem supMint (l : List Pu) (a d : ByteArray) (n : Nat) (sv : Value) (N : Nat) (w : World) {g0 g1 g2 g3 : Nat} (h0 : Row w g0 22 [sv]) (h1 : Row w g1 9 [.string a]) (h2 : Row w g2 9 [.string d]) (h3 : Row w g3 23 [.int .u64 (n : Int)]) (hN : N ≤ w.heap.size) (hl : Many PuR 3 w N sv l) (hr : RightU l) (hlen : l.length ≤ 60) (hn : n < 18446744073709551616) :
    Calls Try.prog 12 #[.pointer (some ⟨g0, 0, none⟩), .pointer (some ⟨g1, 0, none⟩), .pointer (some ⟨g2, 0, none⟩), .pointer (some ⟨g3, 0, none⟩)] w fun e w' => Below w.heap.size w w' ∧ ∃ v, e = .returned (.tuple #[v, .int .i64 (mintE l a d n)]) ∧ Many PuR 3 w' w'.heap.size v (mintL l a d n) := by
  have HC := hid (mint_any l a d n sv N w hN hl hr hlen hn)
  obtain ⟨oa, ca, rfl, -⟩ := hl.shape
  have k0 := h0.k1
  have k1 := h1.k1
  have k2 := h2.k1
  have k3 := h3.k1
  clear hl hr hlen h0 h1 h2 h3
  generalize l.length = m at *
  go_enter Try.func12, Try.ntmps12
  go_wp2_with fail
  refine HC.out.mono ?_
  rintro e w1 ⟨hb1, v, rfl, hv⟩
  have HV := hid hv
  have HB1 := hid hb1
  clear hb1 hv
  go_wp2
  go_ret2
  exact ⟨HB1.out, v, rfl, HV.out⟩
set_option maxRecDepth 100000 in
set_option maxHeartbeats 4000000 in
theorem supBurn (l : List Pu) (a d : ByteArray) (n : Nat) (sv : Value) (N : Nat) (w : World) {g0 g1 g2 g3 : Nat} (h0 : Row w g0 22 [sv]) (h1 : Row w g1 9 [.string a]) (h2 : Row w g2 9 [.string d]) (h3 : Row w g3 23 [.int .u64 (n : Int)]) (hN : N ≤ w.heap.size) (hl : Many PuR 3 w N sv l) (hr : RightU l) (hlen : l.length ≤ 60)  :
    Calls Try.prog 14 #[.pointer (some ⟨g0, 0, none⟩), .pointer (some ⟨g1, 0, none⟩), .pointer (some ⟨g2, 0, none⟩), .pointer (some ⟨g3, 0, none⟩)] w fun e w' => Below w.heap.size w w' ∧ ∃ v, e = .returned (.tuple #[v, .int .i64 (burnE l a d n)]) ∧ Many PuR 3 w' w'.heap.size v (burnL l a d n) := by
  have HC := hid (burn_any l a d n sv N w hN hl hr hlen)
  obtain ⟨oa, ca, rfl, -⟩ := hl.shape
  have k0 := h0.k1
  have k1 := h1.k1
  have k2 := h2.k1
  have k3 := h3.k1
  clear hl hr hlen h0 h1 h2 h3
  generalize l.length = m at *
  go_enter Try.func14, Try.ntmps14
  go_wp2_with fail
  refine HC.out.mono ?_
  rintro e w1 ⟨hb1, v, rfl, hv⟩
  have HV := hid hv
  have HB1 := hid hb1
  clear hb1 hv
  go_wp2
  go_ret2
  exact ⟨HB1.out, v, rfl, HV.out⟩
/-- what is to be of a supply -/
structure SupOk (l : List Pu) (d : ByteArray) (want : Int) (m : List Pu) : Prop where
  right : RightU m
  len : m.length ≤ 60
  sup : (supU m d : Int) = want
  low : want < 18446744073709551616
  others : ∀ x, x ≠ d → supU m x = supU l x
theorem supMove_ok {l : List Pu} (h : RightU l) (hl : l.length ≤ 60) {a b d : ByteArray} {n : Nat} (hn : n < 18446744073709551616) (hs : supU l d < 18446744073709551616) (he : moveE l a b d n = 0) : SupOk l d (supU l d : Int) (moveL l a b d n) := by
  have V := move_ok h hl hn he
  exact ⟨V.right, V.len, by rw [V.sup], by omega, fun x _ => V.sup x⟩
theorem supMint_ok {l : List Pu} (h : RightU l) (hl : l.length ≤ 60) {a d : ByteArray} {n : Nat} (hn : n < 18446744073709551616) (hs : supU l d < 18446744073709551616) (he : mintE l a d n = 0) : SupOk l d (IntKind.u64.wrap ((supU l d : Int) + n)) (mintL l a d n) := by
  obtain ⟨V, hv⟩ := mint_ok h hl hn he
  have hlt : supU l d + n < 18446744073709551616 := by
    rcases Nat.eq_zero_or_pos n with h0 | h0
    · omega
    · exact hv h0
  have e : IntKind.u64.wrap ((supU l d : Int) + n) = (supU l d : Int) + n := by rw [IntKind.wrap_u64]; omega
  rw [e]
  refine ⟨V.right, V.len, ?_, by omega, fun x hx => by rw [V.sup, if_neg hx]; rfl⟩
  rw [V.sup, if_pos rfl]
  omega
theorem supBurn_ok {l : List Pu} (h : RightU l) (hl : l.length ≤ 60) {a d : ByteArray} {n : Nat} (hs : supU l d < 18446744073709551616) (he : burnE l a d n = 0) : SupOk l d (IntKind.u64.wrap ((supU l d : Int) - n)) (burnL l a d n) := by
  have V := burn_ok h he
  have h1 := V.has
  have h2 := amt_le_sup l a d
  have e : IntKind.u64.wrap ((supU l d : Int) - n) = (supU l d : Int) - n := by rw [IntKind.wrap_u64]; omega
  rw [e]
  refine ⟨V.right, Nat.le_trans V.len hl, ?_, by omega, fun x hx => by rw [V.sup, if_neg hx]; rfl⟩
  rw [V.sup, if_pos rfl]
  omega
theorem supE_low {l : List Pu} {d : ByteArray} (h : supU l d < 18446744073709551616) : supE l d = .tuple #[.int .u64 (supU l d : Int), .bool false] := by
  unfold supE
  rw [if_pos h, decide_eq_false (by omega)]
set_option maxRecDepth 100000 in
set_option maxHeartbeats 16000000 in
theorem bankSupply_any (l : List Pu) (a b d x : ByteArray) (n : Nat) (sv : Value) (N : Nat) (w : World) (hN : N ≤ w.heap.size) (hl : Many PuR 3 w N sv l) (hf : ∀ p ∈ l, p.fits) (hlen : l.length < 2305843009213693952) (hn : n < 18446744073709551616) :
    Calls Try.prog 3 #[sv, .string a, .string b, .string d, .int .u64 (n : Int), .string x] w fun e w' => e = .returned (.bool true) ∧ Below w.heap.size w w' := by
  have HAL := hid alive12
  have HRT := hid (fun W (hb : Below w.heap.size w W) => right12 l sv N W (Nat.le_trans hN hb.size) (hl.below PuR.stays (hb.mono hN)) hf hlen)
  have HSU := hid (fun y W (hb : Below w.heap.size w W) => supply_any l y sv N W (Nat.le_trans hN hb.size) (hl.below PuR.stays (hb.mono hN)) (fun p hp => (hf p hp).2.2) hlen)
  have HRI := hid (rightB_iff (l := l) fun p hp => (hf p hp).2.2)
  have HL := hid hl
  obtain ⟨oa, ca, rfl, -⟩ := hl.shape
  clear hl hf hlen
  generalize hm : l.length = m at *
  have HM := hid hm
  clear hm
  go_enter Try.func3, Try.ntmps3
  go_upto_region 1 with fail
  refine fbox5 ?_
  intro w0 F0 hs
  clear hs
  go_wp2_with fail
  refine (HAL.out w0).mono ?_
  rintro e w1 ⟨rfl, hb1⟩
  have F1 := F0.go hb1
  have k0 := F1.r0.k1
  have k3 := F1.r3.k1
  clear hb1 F0
  go_wp2_with fail
  refine (HSU.out d w1 F1.b).mono ?_
  rintro e w2 ⟨rfl, hb2⟩
  have F2 := F1.go hb2
  clear hb2 F1 k0 k3
  have k0 := F2.r0.k1
  have HSE := hid (show supE l d = .tuple #[.int .u64 ((if supU l d < 18446744073709551616 then supU l d else 0 : Nat) : Int), .bool (decide (18446744073709551616 ≤ supU l d))] from rfl)
  rw [HSE.out]
  generalize hsn : (if supU l d < 18446744073709551616 then supU l d else 0) = sn at *
  have HSN := hid hsn
  clear hsn
  go_wp2_with fail
  refine (HRT.out w2 F2.b).mono ?_
  rintro e w3 ⟨rfl, hb3⟩
  have F3 := F2.go hb3
  clear hb3 F2 k0
  by_cases hrt : rightB l = false
  · rw [hrt]
    have HB := hid F3.b
    clear F3
    go_wp2
    go_ret
    exact ⟨rfl, HB.out⟩
  have hrt' : rightB l = true := by simpa using hrt
  obtain ⟨h60, hR⟩ := HRI.out.1 hrt'
  rw [hrt']
  by_cases hov : 18446744073709551616 ≤ supU l d
  · have HB := hid F3.b
    clear F3
    rw [decide_eq_true hov]
    go_wp2
    go_ret
    exact ⟨rfl, HB.out⟩
  rw [decide_eq_false hov]
  obtain rfl : supU l d = sn := by have := HSN.out; rw [if_pos (by omega)] at this; exact this
  have HR := hid hR
  have H60 := hid (show l.length ≤ 60 by rw [HM.out]; exact h60)
  have HOV := hid (show supU l d < 18446744073709551616 by omega)
  clear hrt hrt' hR h60 HRI HAL hov HSN HSE
  go_upto_region 7 with fail
  refine F3.box ?_
  intro w4 F4 hs4 hb4
  clear hs4 hb4 F3
  have HF := hid (fun W (hb : Below w4.heap.size w4 W) => F4.go hb)
  have HB4 := hid F4.b
  clear F4
  go_wp2_with fail
  go_loopw [45] (fun s45 wr => ∃ k : Nat, k ≤ 3 ∧ s45 = .int .i64 k ∧ Hid (Below w4.heap.size w4 wr)) (fun s45 _ => 3 - (intOf s45).toNat)
  case atStart => exact ⟨0, by omega, rfl, Below.refl _ _⟩
  case round =>
    obtain ⟨k, hk, rfl, HW⟩ := hrel
    obtain ⟨f0, f1, f2⟩ := (HF.out wr HW.out).r5.k3
    have HLX := hid (fun W (hb : Below w4.heap.size w4 W) => And.intro (Nat.le_trans hN (HB4.out.trans (hb.mono HB4.out.size)).size) (HL.out.below PuR.stays ((HB4.out.trans (hb.mono HB4.out.size)).mono hN)))
    rcases (by omega : k = 0 ∨ k = 1 ∨ k = 2 ∨ k = 3) with rfl | rfl | rfl | rfl
    · have HK := hid (fun W (hb : Below w4.heap.size w4 W) => supMove l a b d n _ N W (HF.out W hb).r0 (HF.out W hb).r1 (HF.out W hb).r2 (HF.out W hb).r3 (HF.out W hb).r4 (HLX.out W hb).1 (HLX.out W hb).2 HR.out H60.out hn)
      obtain ⟨er, hER⟩ : ∃ er, moveE l a b d n = er := ⟨_, rfl⟩
      obtain ⟨q, hQ⟩ : ∃ q, moveL l a b d n = q := ⟨_, rfl⟩
      have HOK := hid (show er = 0 → SupOk l d ((supU l d : Int)) q from fun h => by rw [← hQ]; exact supMove_ok HR.out H60.out hn HOV.out (by rw [hER]; exact h))
      rw [hER, hQ] at HK
      clear hER hQ
      go_wp2_with fail
      refine (HK.out wr HW.out).mono ?_
      rintro e w5 ⟨hb5, v5, rfl, hv5⟩
      have HB5 := hid (HW.out.trans (hb5.mono HW.out.size))
      have HV5 := hid hv5
      obtain ⟨o5, c5, rfl, -⟩ := hv5.shape
      clear hb5 hv5 HK f0 f1 f2
      by_cases he : er ≠ 0
      · have he' : (er != 0) = true := by simpa using he
        generalize q.length = ql at *
        go_wp2_with fail
        exact ⟨⟨1, by omega, by first | rfl | go_num, HB5.out⟩, by simp [intOf]⟩
      obtain rfl : er = 0 := by omega
      have HSO := hid (HOK.out rfl)
      have HS1 := hid (fun W (hb : Below w5.heap.size w5 W) => supply_any q d _ _ W hb.size (HV5.out.below PuR.stays hb) (fun p hp => (HSO.out.right.ok p hp).2.2.2) (by have := HSO.out.len; omega))
      have HS2 := hid (fun W (hb : Below w5.heap.size w5 W) => supply_any q x _ _ W hb.size (HV5.out.below PuR.stays hb) (fun p hp => (HSO.out.right.ok p hp).2.2.2) (by have := HSO.out.len; omega))
      have HR2 := hid (fun W (hb : Below w5.heap.size w5 W) => right12 q _ _ W hb.size (HV5.out.below PuR.stays hb) (fun p hp => by obtain ⟨z1, z2, z3, z4⟩ := HSO.out.right.ok p hp; simp [wordB] at z1 z2; exact ⟨by omega, by omega, z4⟩) (by have := HSO.out.len; omega))
      rw [show rightB q = true from (rightB_iff fun p hp => (HSO.out.right.ok p hp).2.2.2).2 ⟨HSO.out.len, HSO.out.right⟩] at HR2
      rw [supE_low (by have := HSO.out.sup; have := HSO.out.low; omega)] at HS1
      have HOX := hid (show x ≠ d → supE q x = supE l x from fun h => by unfold supE; rw [HSO.out.others x h])
      rw [HSO.out.sup] at HS1
      generalize hql : q.length = ql at *
      clear he HOK HSO hql HV5
      have k4 := (HF.out w5 HB5.out).r4.k1
      go_upto_region 12 with fail
      refine boxK ?_
      intro w6 hr6 hb6
      have HB6 := hid hb6
      have k3 := (HF.out w6 (HB5.out.trans (hb6.mono HB5.out.size))).r3.k1
      clear hr6 hb6 k4
      go_wp2_with fail
      refine (HS1.out w6 HB6.out).mono ?_
      rintro e w7 ⟨rfl, hb7⟩
      have HB7 := hid (HB6.out.trans (hb7.mono HB6.out.size))
      clear hb7 k3 HS1
      go_wp2_with fail
      refine (HS2.out w7 HB7.out).mono ?_
      rintro e w8 ⟨rfl, hb8⟩
      have HB8 := hid (HB7.out.trans (hb8.mono HB7.out.size))
      clear hb8 HS2
      have HE := hid (HB5.out.trans (HB8.out.mono HB5.out.size))
      have k0 := (HF.out w8 HE.out).r0.k1
      rw [show supE q x = .tuple #[.int .u64 ((if supU q x < 18446744073709551616 then supU q x else 0 : Nat) : Int), .bool (decide (18446744073709551616 ≤ supU q x))] from rfl]
      obtain ⟨s8, e8⟩ : ∃ s8 : Nat, (if supU q x < 18446744073709551616 then supU q x else 0 : Nat) = s8 := ⟨_, rfl⟩
      obtain ⟨b8, f8⟩ : ∃ b8 : Bool, decide (18446744073709551616 ≤ supU q x) = b8 := ⟨_, rfl⟩
      have HX8 := hid (show supE q x = .tuple #[.int .u64 (s8 : Int), .bool b8] by rw [← e8, ← f8]; rfl)
      rw [e8, f8]
      clear e8 f8
      go_wp2_with fail
      refine (HSU.out x w8 (HB4.out.trans (HE.out.mono HB4.out.size))).mono ?_
      rintro e w9 ⟨rfl, hb9⟩
      have HB9 := hid (HB8.out.trans (hb9.mono HB8.out.size))
      clear hb9 k0 HE
      obtain ⟨s9, b9, e9⟩ : ∃ (s9 : Nat) (b9 : Bool), supE l x = .tuple #[.int .u64 (s9 : Int), .bool b9] := ⟨_, _, rfl⟩
      rw [e9]
      go_upto_region 15 with fail
      have HRX := hid (HR2.out w9 HB9.out)
      go_wp2_with fail
      refine HRX.out.mono ?_
      rintro e wa ⟨rfl, hba⟩
      have HBA := hid (HB5.out.trans ((HB9.out.trans (hba.mono HB9.out.size)).mono HB5.out.size))
      clear hba HRX HR2
      have k3 := (HF.out wa HBA.out).r3.k1
      by_cases hxd : x = d
      · subst hxd
        go_wp2_with fail
        exact ⟨⟨1, by omega, by first | rfl | go_num, HBA.out⟩, by simp [intOf]⟩
      · have sx := str_ne hxd
        have hee := HOX.out hxd
        rw [HX8.out, e9] at hee
        simp at hee
        obtain ⟨rfl, rfl⟩ : s8 = s9 ∧ b8 = b9 := ⟨by omega, hee.2⟩
        clear hee e9 hxd
        go_wp2_with fail
        exact ⟨⟨1, by omega, by first | rfl | go_num, HBA.out⟩, by simp [intOf]⟩
    · have HK := hid (fun W (hb : Below w4.heap.size w4 W) => supMint l a d n _ N W (HF.out W hb).r0 (HF.out W hb).r1 (HF.out W hb).r3 (HF.out W hb).r4 (HLX.out W hb).1 (HLX.out W hb).2 HR.out H60.out hn)
      obtain ⟨er, hER⟩ : ∃ er, mintE l a d n = er := ⟨_, rfl⟩
      obtain ⟨q, hQ⟩ : ∃ q, mintL l a d n = q := ⟨_, rfl⟩
      have HOK := hid (show er = 0 → SupOk l d (IntKind.u64.wrap ((supU l d : Int) + n)) q from fun h => by rw [← hQ]; exact supMint_ok HR.out H60.out hn HOV.out (by rw [hER]; exact h))
      rw [hER, hQ] at HK
      clear hER hQ
      go_wp2_with fail
      refine (HK.out wr HW.out).mono ?_
      rintro e w5 ⟨hb5, v5, rfl, hv5⟩
      have HB5 := hid (HW.out.trans (hb5.mono HW.out.size))
      have HV5 := hid hv5
      obtain ⟨o5, c5, rfl, -⟩ := hv5.shape
      clear hb5 hv5 HK f0 f1 f2
      by_cases he : er ≠ 0
      · have he' : (er != 0) = true := by simpa using he
        generalize q.length = ql at *
        go_wp2_with fail
        exact ⟨⟨2, by omega, by first | rfl | go_num, HB5.out⟩, by simp [intOf]⟩
      obtain rfl : er = 0 := by omega
      have HSO := hid (HOK.out rfl)
      have HS1 := hid (fun W (hb : Below w5.heap.size w5 W) => supply_any q d _ _ W hb.size (HV5.out.below PuR.stays hb) (fun p hp => (HSO.out.right.ok p hp).2.2.2) (by have := HSO.out.len; omega))
      have HS2 := hid (fun W (hb : Below w5.heap.size w5 W) => supply_any q x _ _ W hb.size (HV5.out.below PuR.stays hb) (fun p hp => (HSO.out.right.ok p hp).2.2.2) (by have := HSO.out.len; omega))
      have HR2 := hid (fun W (hb : Below w5.heap.size w5 W) => right12 q _ _ W hb.size (HV5.out.below PuR.stays hb) (fun p hp => by obtain ⟨z1, z2, z3, z4⟩ := HSO.out.right.ok p hp; simp [wordB] at z1 z2; exact ⟨by omega, by omega, z4⟩) (by have := HSO.out.len; omega))
      rw [show rightB q = true from (rightB_iff fun p hp => (HSO.out.right.ok p hp).2.2.2).2 ⟨HSO.out.len, HSO.out.right⟩] at HR2
      rw [supE_low (by have := HSO.out.sup; have := HSO.out.low; omega)] at HS1
      have HOX := hid (show x ≠ d → supE q x = supE l x from fun h => by unfold supE; rw [HSO.out.others x h])
      rw [HSO.out.sup] at HS1
      generalize hql : q.length = ql at *
      clear he HOK HSO hql HV5
      have k4 := (HF.out w5 HB5.out).r4.k1
      go_upto_region 12 with fail
      refine boxK ?_
      intro w6 hr6 hb6
      have HB6 := hid hb6
      have k3 := (HF.out w6 (HB5.out.trans (hb6.mono HB5.out.size))).r3.k1
      clear hr6 hb6 k4
      go_wp2_with fail
      refine (HS1.out w6 HB6.out).mono ?_
      rintro e w7 ⟨rfl, hb7⟩
      have HB7 := hid (HB6.out.trans (hb7.mono HB6.out.size))
      clear hb7 k3 HS1
      go_wp2_with fail
      refine (HS2.out w7 HB7.out).mono ?_
      rintro e w8 ⟨rfl, hb8⟩
      have HB8 := hid (HB7.out.trans (hb8.mono HB7.out.size))
      clear hb8 HS2
      have HE := hid (HB5.out.trans (HB8.out.mono HB5.out.size))
      have k0 := (HF.out w8 HE.out).r0.k1
      rw [show supE q x = .tuple #[.int .u64 ((if supU q x < 18446744073709551616 then supU q x else 0 : Nat) : Int), .bool (decide (18446744073709551616 ≤ supU q x))] from rfl]
      obtain ⟨s8, e8⟩ : ∃ s8 : Nat, (if supU q x < 18446744073709551616 then supU q x else 0 : Nat) = s8 := ⟨_, rfl⟩
      obtain ⟨b8, f8⟩ : ∃ b8 : Bool, decide (18446744073709551616 ≤ supU q x) = b8 := ⟨_, rfl⟩
      have HX8 := hid (show supE q x = .tuple #[.int .u64 (s8 : Int), .bool b8] by rw [← e8, ← f8]; rfl)
      rw [e8, f8]
      clear e8 f8
      go_wp2_with fail
      refine (HSU.out x w8 (HB4.out.trans (HE.out.mono HB4.out.size))).mono ?_
      rintro e w9 ⟨rfl, hb9⟩
      have HB9 := hid (HB8.out.trans (hb9.mono HB8.out.size))
      clear hb9 k0 HE
      obtain ⟨s9, b9, e9⟩ : ∃ (s9 : Nat) (b9 : Bool), supE l x = .tuple #[.int .u64 (s9 : Int), .bool b9] := ⟨_, _, rfl⟩
      rw [e9]
      go_upto_region 15 with fail
      have HRX := hid (HR2.out w9 HB9.out)
      go_wp2_with fail
      refine HRX.out.mono ?_
      rintro e wa ⟨rfl, hba⟩
      have HBA := hid (HB5.out.trans ((HB9.out.trans (hba.mono HB9.out.size)).mono HB5.out.size))
      clear hba HRX HR2
      have k3 := (HF.out wa HBA.out).r3.k1
      by_cases hxd : x = d
      · subst hxd
        go_wp2_with fail
        exact ⟨⟨2, by omega, by first | rfl | go_num, HBA.out⟩, by simp [intOf]⟩
      · have sx := str_ne hxd
        have hee := HOX.out hxd
        rw [HX8.out, e9] at hee
        simp at hee
        obtain ⟨rfl, rfl⟩ : s8 = s9 ∧ b8 = b9 := ⟨by omega, hee.2⟩
        clear hee e9 hxd
        go_wp2_with fail
        exact ⟨⟨2, by omega, by first | rfl | go_num, HBA.out⟩, by simp [intOf]⟩
    · have HK := hid (fun W (hb : Below w4.heap.size w4 W) => supBurn l a d n _ N W (HF.out W hb).r0 (HF.out W hb).r1 (HF.out W hb).r3 (HF.out W hb).r4 (HLX.out W hb).1 (HLX.out W hb).2 HR.out H60.out)
      obtain ⟨er, hER⟩ : ∃ er, burnE l a d n = er := ⟨_, rfl⟩
      obtain ⟨q, hQ⟩ : ∃ q, burnL l a d n = q := ⟨_, rfl⟩
      have HOK := hid (show er = 0 → SupOk l d (IntKind.u64.wrap ((supU l d : Int) - n)) q from fun h => by rw [← hQ]; exact supBurn_ok HR.out H60.out HOV.out (by rw [hER]; exact h))
      rw [hER, hQ] at HK
      clear hER hQ
      go_wp2_with fail
      refine (HK.out wr HW.out).mono ?_
      rintro e w5 ⟨hb5, v5, rfl, hv5⟩
      have HB5 := hid (HW.out.trans (hb5.mono HW.out.size))
      have HV5 := hid hv5
      obtain ⟨o5, c5, rfl, -⟩ := hv5.shape
      clear hb5 hv5 HK f0 f1 f2
      by_cases he : er ≠ 0
      · have he' : (er != 0) = true := by simpa using he
        generalize q.length = ql at *
        go_wp2_with fail
        exact ⟨⟨3, by omega, by first | rfl | go_num, HB5.out⟩, by simp [intOf]⟩
      obtain rfl : er = 0 := by omega
      have HSO := hid (HOK.out rfl)
      have HS1 := hid (fun W (hb : Below w5.heap.size w5 W) => supply_any q d _ _ W hb.size (HV5.out.below PuR.stays hb) (fun p hp => (HSO.out.right.ok p hp).2.2.2) (by have := HSO.out.len; omega))
      have HS2 := hid (fun W (hb : Below w5.heap.size w5 W) => supply_any q x _ _ W hb.size (HV5.out.below PuR.stays hb) (fun p hp => (HSO.out.right.ok p hp).2.2.2) (by have := HSO.out.len; omega))
      have HR2 := hid (fun W (hb : Below w5.heap.size w5 W) => right12 q _ _ W hb.size (HV5.out.below PuR.stays hb) (fun p hp => by obtain ⟨z1, z2, z3, z4⟩ := HSO.out.right.ok p hp; simp [wordB] at z1 z2; exact ⟨by omega, by omega, z4⟩) (by have := HSO.out.len; omega))
      rw [show rightB q = true from (rightB_iff fun p hp => (HSO.out.right.ok p hp).2.2.2).2 ⟨HSO.out.len, HSO.out.right⟩] at HR2
      rw [supE_low (by have := HSO.out.sup; have := HSO.out.low; omega)] at HS1
      have HOX := hid (show x ≠ d → supE q x = supE l x from fun h => by unfold supE; rw [HSO.out.others x h])
      rw [HSO.out.sup] at HS1
      generalize hql : q.length = ql at *
      clear he HOK HSO hql HV5
      have k4 := (HF.out w5 HB5.out).r4.k1
      go_upto_region 12 with fail
      refine boxK ?_
      intro w6 hr6 hb6
      have HB6 := hid hb6
      have k3 := (HF.out w6 (HB5.out.trans (hb6.mono HB5.out.size))).r3.k1
      clear hr6 hb6 k4
      go_wp2_with fail
      refine (HS1.out w6 HB6.out).mono ?_
      rintro e w7 ⟨rfl, hb7⟩
      have HB7 := hid (HB6.out.trans (hb7.mono HB6.out.size))
      clear hb7 k3 HS1
      go_wp2_with fail
      refine (HS2.out w7 HB7.out).mono ?_
      rintro e w8 ⟨rfl, hb8⟩
      have HB8 := hid (HB7.out.trans (hb8.mono HB7.out.size))
      clear hb8 HS2
      have HE := hid (HB5.out.trans (HB8.out.mono HB5.out.size))
      have k0 := (HF.out w8 HE.out).r0.k1
      rw [show supE q x = .tuple #[.int .u64 ((if supU q x < 18446744073709551616 then supU q x else 0 : Nat) : Int), .bool (decide (18446744073709551616 ≤ supU q x))] from rfl]
      obtain ⟨s8, e8⟩ : ∃ s8 : Nat, (if supU q x < 18446744073709551616 then supU q x else 0 : Nat) = s8 := ⟨_, rfl⟩
      obtain ⟨b8, f8⟩ : ∃ b8 : Bool, decide (18446744073709551616 ≤ supU q x) = b8 := ⟨_, rfl⟩
      have HX8 := hid (show supE q x = .tuple #[.int .u64 (s8 : Int), .bool b8] by rw [← e8, ← f8]; rfl)
      rw [e8, f8]
      clear e8 f8
      go_wp2_with fail
      refine (HSU.out x w8 (HB4.out.trans (HE.out.mono HB4.out.size))).mono ?_
      rintro e w9 ⟨rfl, hb9⟩
      have HB9 := hid (HB8.out.trans (hb9.mono HB8.out.size))
      clear hb9 k0 HE
      obtain ⟨s9, b9, e9⟩ : ∃ (s9 : Nat) (b9 : Bool), supE l x = .tuple #[.int .u64 (s9 : Int), .bool b9] := ⟨_, _, rfl⟩
      rw [e9]
      go_upto_region 15 with fail
      have HRX := hid (HR2.out w9 HB9.out)
      go_wp2_with fail
      refine HRX.out.mono ?_
      rintro e wa ⟨rfl, hba⟩
      have HBA := hid (HB5.out.trans ((HB9.out.trans (hba.mono HB9.out.size)).mono HB5.out.size))
      clear hba HRX HR2
      have k3 := (HF.out wa HBA.out).r3.k1
      by_cases hxd : x = d
      · subst hxd
        go_wp2_with fail
        exact ⟨⟨3, by omega, by first | rfl | go_num, HBA.out⟩, by simp [intOf]⟩
      · have sx := str_ne hxd
        have hee := HOX.out hxd
        rw [HX8.out, e9] at hee
        simp at hee
        obtain ⟨rfl, rfl⟩ : s8 = s9 ∧ b8 = b9 := ⟨by omega, hee.2⟩
        clear hee e9 hxd
        go_wp2_with fail
        exact ⟨⟨3, by omega, by first | rfl | go_num, HBA.out⟩, by simp [intOf]⟩
    · have HB := hid (HB4.out.trans (HW.out.mono HB4.out.size))
      go_wp2
      go_ret
      exact ⟨rfl, HB.out⟩
end Go.Proofs.Ytnoaohlajllngaa
