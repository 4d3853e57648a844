/-
  BankMoved: the walk.
-/
import Derived.Test.YtnoaohlajllngaamvBkLaw
namespace Go.Proofs.Ytnoaohlajllngaa
open Go.RowKit

theorem move_nil {l : List Pu} {a b d : ByteArray} {n : Nat} (h : moveE l a b d n ≠ 0) : moveL l a b d n = [] := by
  unfold moveE at h
  unfold moveL
  by_cases h1 : burnE l a d n = 0
  · rw [if_neg (by simp [h1])] at h ⊢
    unfold mintL
    rw [if_pos h]
  · rw [if_pos h1]
theorem moved_self {l m : List Pu} {a d : ByteArray} {n : Nat} (hr : RightU l) (V : Moved l a a d n m) : m = l := right_ext V.right hr fun o' d' => by
  have := V.amt o' d'
  split at this <;> omega
theorem moved_from {l m : List Pu} {a b d : ByteArray} {n : Nat} (V : Moved l a b d n m) (h : a ≠ b) : amtU m a d = amtU l a d - n := by
  have := V.amt a d
  rw [if_pos ⟨rfl, rfl⟩, if_neg (fun e => h e.1)] at this
  have := V.has
  omega
theorem moved_to {l m : List Pu} {a b d : ByteArray} {n : Nat} (V : Moved l a b d n m) (h : a ≠ b) : amtU m b d = amtU l b d + n := by
  have := V.amt b d
  rw [if_neg (fun e => h e.1.symm), if_pos ⟨rfl, rfl⟩] at this
  omega
theorem moved_other {l m : List Pu} {a b d x : ByteArray} {n : Nat} (V : Moved l a b d n m) (h1 : x ≠ a) (h2 : x ≠ b) : amtU m x d = amtU l x d := by
  have := V.amt x d
  rw [if_neg (fun e => h1 e.1), if_neg (fun e => h2 e.1)] at this
  omega
theorem ctx12 {l : List Pu} {v : Value} {N : Nat} {w : World} (hN : N ≤ w.heap.size) (hl : Many PuR 3 w N v l) (hr : RightU l) (hlen : l.length ≤ 60) (o d : ByteArray) : ∀ W, Below w.heap.size w W → Calls Try.prog 20 #[v, .string o, .string d] W fun e w' => e = .returned (.int .u64 (amtU l o d : Int)) ∧ Below W.heap.size W w' :=
  fun W hb => amount_any l o d v N W (Nat.le_trans hN hb.size) (hl.below PuR.stays (hb.mono hN)) hr.sort (by omega)
set_option maxRecDepth 100000 in
set_option maxHeartbeats 4000000 in
theorem bankMoved_any (l : List Pu) (a b d x : ByteArray) (n : Nat) (sv : Value) (N : Nat) (w : World) (hN : N ≤ w.heap.size) (hl : Many PuR 3 w N sv l) (hf : ∀ p ∈ l, p.fits) (hlen : l.length < 2305843009213693952) (hn : n < 18446744073709551616) :
    Calls Try.prog 6 #[sv, .string a, .string b, .string d, .int .u64 (n : Int), .string x] w fun e w' => e = .returned (.bool true) ∧ Below w.heap.size w w' := by
  have HAL := hid (alive12 w)
  have HRT := hid (fun W (hb : Below w.heap.size w W) => right12 l sv N W (Nat.le_trans hN hb.size) (hl.below PuR.stays (hb.mono hN)) hf hlen)
  have HRI := hid (rightB_iff (l := l) fun p hp => (hf p hp).2.2)
  have HL := hid hl
  obtain ⟨oa, ca, rfl, -⟩ := hl.shape
  clear hl hf hlen
  generalize hm : l.length = m at *
  have HM := hid hm
  clear hm
  go_enter Try.func6, Try.ntmps6
  go_wp2_with fail
  refine HAL.out.mono ?_
  rintro e w1 ⟨rfl, hb1⟩
  have HB1 := hid hb1
  clear hb1
  go_wp2_with fail
  refine (HRT.out w1 HB1.out).mono ?_
  rintro e w2 ⟨rfl, hb2⟩
  have HB2 := hid (HB1.out.trans (hb2.mono HB1.out.size))
  clear hb2
  by_cases hrt : rightB l = false
  · rw [hrt]
    go_wp2
    go_ret
    exact ⟨rfl, HB2.out⟩
  have hrt' : rightB l = true := by simpa using hrt
  obtain ⟨h60, hR⟩ := HRI.out.1 hrt'
  rw [hrt']
  have HR := hid hR
  have H60 := hid h60
  have HMV := hid (move_any l a b d n _ N w2 (Nat.le_trans hN HB2.out.size) (HL.out.below PuR.stays (HB2.out.mono hN)) hR (by rw [HM.out]; exact h60) hn)
  have HOK := hid (fun h => move_ok (n := n) (a := a) (b := b) (d := d) hR (by rw [HM.out]; exact h60) hn h)
  have HNI := hid (fun h => move_nil (l := l) (n := n) (a := a) (b := b) (d := d) h)
  clear hrt hrt' hR h60 HRI HRT HAL
  go_wp2_with fail
  refine HMV.out.mono ?_
  rintro e w3 ⟨hb3, v3, rfl, hv3⟩
  generalize moveE l a b d n = er at *
  generalize moveL l a b d n = q at *
  have HB3 := hid (HB2.out.trans (hb3.mono HB2.out.size))
  have HV3 := hid hv3
  obtain ⟨o3, c3, rfl, -⟩ := hv3.shape
  clear hb3 hv3 HMV
  by_cases he : er ≠ 0
  · have hq := HNI.out he
    subst hq
    have he' : (er != 0) = true := by simpa using he
    go_wp2
    go_ret
    exact ⟨rfl, HB3.out⟩
  have he0 : er = 0 := by omega
  subst he0
  have HV := hid (HOK.out rfl)
  have HA := hid (fun o => ctx12 (Nat.le_trans hN HB3.out.size) (HL.out.below PuR.stays (HB3.out.mono hN)) HR.out (by rw [HM.out]; exact H60.out) o d)
  have HQ := hid (fun o => ctx12 (Nat.le_refl _) HV3.out HV.out.right HV.out.len o d)
  have hqb := amt_bound HV.out.right b d
  have hab := amt_bound HR.out a d
  have HSM := hid (fun (h : q = l) W (hb : Below w3.heap.size w3 W) => sameU_eq l (.slice oa m ca) (.slice o3 q.length c3) N w3.heap.size W (Nat.le_trans (Nat.le_trans hN HB3.out.size) hb.size) hb.size (HL.out.below PuR.stays ((HB3.out.trans (hb.mono HB3.out.size)).mono hN)) (by have := HV3.out.below PuR.stays hb; rw [h] at this ⊢; exact this) (by have := HM.out; have := H60.out; omega))
  have HHAS := hid HV.out.has
  clear he HOK HNI
  generalize hql : q.length = ql at *
  clear hql
  generalize ea : amtU l a d = va at *
  go_wp2_with fail
  refine (HA.out a w3 (Below.refl _ _)).mono ?_
  rintro e w4 ⟨rfl, hb4⟩
  have HB4 := hid hb4
  rw [ea]
  clear hb4
  go_wp2_with fail
  refine (HA.out b w4 HB4.out).mono ?_
  rintro e w5 ⟨rfl, hb5⟩
  have HB5 := hid (HB4.out.trans (hb5.mono HB4.out.size))
  clear hb5
  by_cases hab' : a = b
  · subst hab'
    have hql := moved_self HR.out HV.out
    have HS := hid (HSM.out hql)
    subst hql
    go_wp2_with fail
    refine (HQ.out a w5 HB5.out).mono ?_
    rintro e w6 ⟨rfl, hb6⟩
    have HB6 := hid (HB5.out.trans (hb6.mono HB5.out.size))
    rw [ea]
    clear hb6
    go_wp2_with fail
    refine (HS.out w6 HB6.out).mono ?_
    rintro e w7 ⟨rfl, hb7⟩
    have HB7 := hid (HB3.out.trans ((HB6.out.trans (hb7.mono HB6.out.size)).mono HB3.out.size))
    clear hb7
    go_wp2
    go_ret
    exact ⟨rfl, HB7.out⟩
  have s1 := str_ne hab'
  have HF := hid (moved_from HV.out hab')
  have HT := hid (moved_to HV.out hab')
  have HO := hid (fun h1 h2 => moved_other (x := x) HV.out h1 h2)
  rw [ea] at HF
  rw [HT.out] at hqb
  generalize eb : amtU l b d = vb at *
  have q1 : IntKind.u64.wrap ((va : Int) - (n : Int)) = ((va - n : Nat) : Int) := by rw [IntKind.wrap_u64]; have := HHAS.out; omega
  have q2 : IntKind.u64.wrap ((vb : Int) + (n : Int)) = ((vb + n : Nat) : Int) := by rw [IntKind.wrap_u64]; omega
  generalize va - n = vc at *
  generalize vb + n = ve at *
  have GO := hid (show ∀ W, Below w3.heap.size w3 W → Calls Try.prog 20 #[.slice o3 ql c3, .string a, .string d] W (fun e w' => e = .returned (.int .u64 (vc : Int)) ∧ Below W.heap.size W w') ∧ Calls Try.prog 20 #[.slice o3 ql c3, .string b, .string d] W (fun e w' => e = .returned (.int .u64 (ve : Int)) ∧ Below W.heap.size W w') from fun W hb => ⟨by have := HQ.out a W hb; rw [HF.out] at this; exact this, by have := HQ.out b W hb; rw [HT.out] at this; exact this⟩)
  clear hab'
  by_cases hx1 : x = a
  · subst hx1
    go_wp2_with fail
    refine (GO.out w5 HB5.out).1.mono ?_
    rintro e w8 ⟨rfl, hb8⟩
    have HB8 := hid (HB5.out.trans (hb8.mono HB5.out.size))
    clear hb8
    go_wp2_with fail
    refine (GO.out w8 HB8.out).2.mono ?_
    rintro e w9 ⟨rfl, hb9⟩
    have HB9 := hid (HB3.out.trans ((HB8.out.trans (hb9.mono HB8.out.size)).mono HB3.out.size))
    clear hb9
    go_wp2
    go_ret
    exact ⟨rfl, HB9.out⟩
  by_cases hx2 : x = b
  · subst hx2
    have s2 := str_ne (fun e => hx1 e)
    go_wp2_with fail
    refine (GO.out w5 HB5.out).1.mono ?_
    rintro e w8 ⟨rfl, hb8⟩
    have HB8 := hid (HB5.out.trans (hb8.mono HB5.out.size))
    clear hb8
    go_wp2_with fail
    refine (GO.out w8 HB8.out).2.mono ?_
    rintro e w9 ⟨rfl, hb9⟩
    have HB9 := hid (HB3.out.trans ((HB8.out.trans (hb9.mono HB8.out.size)).mono HB3.out.size))
    clear hb9
    go_wp2
    go_ret
    exact ⟨rfl, HB9.out⟩
  have s2 := str_ne hx1
  have s3 := str_ne hx2
  have HOX := hid (HO.out hx1 hx2)
  clear hx1 hx2 HO
  go_wp2_with fail
  refine (HA.out x w5 HB5.out).mono ?_
  rintro e w6 ⟨rfl, hb6⟩
  have HB6 := hid (HB5.out.trans (hb6.mono HB5.out.size))
  clear hb6
  go_wp2_with fail
  refine (HQ.out x w6 HB6.out).mono ?_
  rintro e w7 ⟨rfl, hb7⟩
  have HB7 := hid (HB6.out.trans (hb7.mono HB6.out.size))
  rw [HOX.out]
  generalize amtU l x d = vx at *
  clear hb7
  go_wp2_with fail
  refine (GO.out w7 HB7.out).1.mono ?_
  rintro e w8 ⟨rfl, hb8⟩
  have HB8 := hid (HB7.out.trans (hb8.mono HB7.out.size))
  clear hb8
  go_wp2_with fail
  refine (GO.out w8 HB8.out).2.mono ?_
  rintro e w9 ⟨rfl, hb9⟩
  have HB9 := hid (HB3.out.trans ((HB8.out.trans (hb9.mono HB8.out.size)).mono HB3.out.size))
  clear hb9
  go_wp2
  go_ret
  exact ⟨rfl, HB9.out⟩
end Go.Proofs.Ytnoaohlajllngaa
