/-
  BankOrder: the walk.
-/
import Derived.Test.YtnoaohlajllngaaodBkLaw
import Derived.Test.YtnoaohlajllngaaodBkTr
namespace Go.Proofs.Ytnoaohlajllngaa
open Go.RowKit

set_option maxRecDepth 100000 in
set_option maxHeartbeats 4000000 in
theorem orderMove_any (l : List Pu) (t : Tr) (sv : Value) (N : Nat) (w : World) (hN : N ≤ w.heap.size) (hl : Many PuR 3 w N sv l) (hr : RightU l) (hlen : l.length ≤ 60) (hn : t.amount < 18446744073709551616) :
    Calls Try.prog 18 #[sv, .agg #[.string t.denom, .int .u64 (t.amount : Int), .string t.sender, .string t.reader]] w fun e w' => Below w.heap.size w w' ∧ ∃ v, e = .returned (.tuple #[v, .int .i64 (moveE l t.sender t.reader t.denom t.amount)]) ∧ Many PuR 3 w' w'.heap.size v (moveL l t.sender t.reader t.denom t.amount) := by
  have HC := hid (fun W (hb : Below w.heap.size w W) => move_any l t.sender t.reader t.denom t.amount sv N W (Nat.le_trans hN hb.size) (hl.below PuR.stays (hb.mono hN)) hr hlen hn)
  obtain ⟨oa, ca, rfl, -⟩ := hl.shape
  clear hl hr hlen
  generalize l.length = m at *
  go_enter Try.func18, Try.ntmps18
  go_upto_region 1 with fail
  refine fbox1 ?_
  intro w0 F hs
  obtain ⟨k0, k1, k2, k3⟩ := F.r0.k4
  have HB := hid F.b
  clear F hs
  go_wp2_with fail
  refine (HC.out w0 HB.out).mono ?_
  rintro e w1 ⟨hb1, v, rfl, hv⟩
  have HV := hid hv
  have HB1 := hid (HB.out.trans (hb1.mono HB.out.size))
  clear hb1 hv
  go_wp2
  go_ret2
  exact ⟨HB1.out, v, rfl, HV.out⟩
theorem moved_comm {l x y x' y' : List Pu} {a b : Tr} (X : Moved l a.sender a.reader a.denom a.amount x) (X' : Moved x b.sender b.reader b.denom b.amount x') (Y : Moved l b.sender b.reader b.denom b.amount y) (Y' : Moved y a.sender a.reader a.denom a.amount y') : x' = y' := right_ext X'.right Y'.right fun o d => by
  have h1 := X.amt o d
  have h2 := X'.amt o d
  have h3 := Y.amt o d
  have h4 := Y'.amt o d
  omega
set_option maxRecDepth 100000 in
set_option maxHeartbeats 4000000 in
theorem bankOrder_any (l : List Pu) (a b : Tr) (sv : Value) (N : Nat) (w : World) (hN : N ≤ w.heap.size) (hl : Many PuR 3 w N sv l) (hf : ∀ p ∈ l, p.fits) (hlen : l.length < 2305843009213693952) (ha : a.amount < 18446744073709551616) (hb : b.amount < 18446744073709551616) :
    Calls Try.prog 5 #[sv, .agg #[.string a.denom, .int .u64 (a.amount : Int), .string a.sender, .string a.reader], .agg #[.string b.denom, .int .u64 (b.amount : Int), .string b.sender, .string b.reader]] w fun e w' => e = .returned (.bool true) ∧ Below w.heap.size w w' := by
  have HAL := hid alive12
  have HRT := hid (fun W (hb : Below w.heap.size w W) => right12 l sv N W (Nat.le_trans hN hb.size) (hl.below PuR.stays (hb.mono hN)) hf hlen)
  have HRI := hid (rightB_iff (l := l) fun p hp => (hf p hp).2.2)
  have HL := hid hl
  obtain ⟨oa, ca, rfl, -⟩ := hl.shape
  clear hl hf hlen
  generalize hm : l.length = m at *
  have HM := hid hm
  clear hm
  go_enter Try.func5, Try.ntmps5
  go_upto_region 1 with fail
  refine fbox2 ?_
  intro w0 F0 hs
  clear hs
  go_wp2_with fail
  refine (HAL.out w0).mono ?_
  rintro e w1 ⟨rfl, hb1⟩
  have F1 := F0.go hb1
  clear hb1 F0
  go_wp2_with fail
  refine (HRT.out w1 F1.b).mono ?_
  rintro e w2 ⟨rfl, hb2⟩
  have F2 := F1.go hb2
  clear hb2 F1
  by_cases hrt : rightB l = false
  · rw [hrt]
    have HB := hid F2.b
    clear F2
    go_wp2
    go_ret
    exact ⟨rfl, HB.out⟩
  have hrt' : rightB l = true := by simpa using hrt
  obtain ⟨h60, hR⟩ := HRI.out.1 hrt'
  rw [hrt']
  have HR := hid hR
  have HC1 := hid (orderMove_any l a _ N w2 (Nat.le_trans hN F2.b.size) (HL.out.below PuR.stays (F2.b.mono hN)) hR (by rw [HM.out]; exact h60) ha)
  have HC3 := hid (fun W (hb' : Below w.heap.size w W) => orderMove_any l b _ N W (Nat.le_trans hN hb'.size) (HL.out.below PuR.stays (hb'.mono hN)) hR (by rw [HM.out]; exact h60) hb)
  have HO1 := hid (fun h => move_ok (n := a.amount) (a := a.sender) (b := a.reader) (d := a.denom) hR (by rw [HM.out]; exact h60) ha h)
  have HO3 := hid (fun h => move_ok (n := b.amount) (a := b.sender) (b := b.reader) (d := b.denom) hR (by rw [HM.out]; exact h60) hb h)
  clear hrt hrt' hR h60 HRI HRT HAL
  obtain ⟨k0, k1, k2, k3⟩ := F2.r0.k4
  go_wp2_with fail
  refine HC1.out.mono ?_
  rintro e w3 ⟨hb3, v3, rfl, hv3⟩
  generalize moveE l a.sender a.reader a.denom a.amount = e1 at *
  generalize moveL l a.sender a.reader a.denom a.amount = x at *
  have F3 := F2.go hb3
  have HV3 := hid hv3
  obtain ⟨o3, c3, rfl, -⟩ := hv3.shape
  clear hb3 hv3 HC1 k0 k1 k2 k3 F2
  by_cases he1 : e1 ≠ 0
  · have he' : (e1 != 0) = true := by simpa using he1
    have HB := hid F3.b
    clear F3
    go_wp2
    go_ret
    exact ⟨rfl, HB.out⟩
  obtain rfl : e1 = 0 := by omega
  have HX := hid (HO1.out rfl)
  have HC2 := hid (orderMove_any x b _ _ w3 (Nat.le_refl _) HV3.out HX.out.right HX.out.len hb)
  have HO2 := hid (fun h => move_ok (n := b.amount) (a := b.sender) (b := b.reader) (d := b.denom) HX.out.right HX.out.len hb h)
  generalize hxl : x.length = xl at *
  clear hxl he1 HO1 HV3
  obtain ⟨k0, k1, k2, k3⟩ := F3.r1.k4
  go_wp2_with fail
  refine HC2.out.mono ?_
  rintro e w4 ⟨hb4, v4, rfl, hv4⟩
  generalize moveE x b.sender b.reader b.denom b.amount = e2 at *
  generalize moveL x b.sender b.reader b.denom b.amount = x' at *
  have F4 := F3.go hb4
  have HV4 := hid hv4
  obtain ⟨o4, c4, rfl, -⟩ := hv4.shape
  clear hb4 hv4 HC2 k0 k1 k2 k3 F3
  obtain ⟨k0, k1, k2, k3⟩ := F4.r1.k4
  go_wp2_with fail
  refine (HC3.out w4 F4.b).mono ?_
  rintro e w5 ⟨hb5, v5, rfl, hv5⟩
  generalize moveE l b.sender b.reader b.denom b.amount = e3 at *
  generalize moveL l b.sender b.reader b.denom b.amount = y at *
  have F5 := F4.go hb5
  replace HV4 := hid (HV4.out.below PuR.stays hb5)
  have hz4 := F4.go hb5
  have HSZ := hid hb5.size
  have HV5 := hid hv5
  obtain ⟨o5, c5, rfl, -⟩ := hv5.shape
  clear hb5 hv5 HC3 k0 k1 k2 k3 F4 hz4
  by_cases he3 : e3 ≠ 0
  · have he' : (e3 != 0) = true := by simpa using he3
    have HB := hid F5.b
    clear F5
    go_wp2
    go_ret
    exact ⟨rfl, HB.out⟩
  obtain rfl : e3 = 0 := by omega
  have HY := hid (HO3.out rfl)
  have HC4 := hid (orderMove_any y a _ _ w5 (Nat.le_refl _) HV5.out HY.out.right HY.out.len ha)
  have HO4 := hid (fun h => move_ok (n := a.amount) (a := a.sender) (b := a.reader) (d := a.denom) HY.out.right HY.out.len ha h)
  generalize hyl : y.length = yl at *
  clear hyl he3 HO3 HV5
  obtain ⟨k0, k1, k2, k3⟩ := F5.r0.k4
  go_wp2_with fail
  refine HC4.out.mono ?_
  rintro e w6 ⟨hb6, v6, rfl, hv6⟩
  generalize moveE y a.sender a.reader a.denom a.amount = e4 at *
  generalize moveL y a.sender a.reader a.denom a.amount = y' at *
  have HB6 := hid (F5.go hb6).b
  replace HV4 := hid (HV4.out.below PuR.stays (hb6.mono HSZ.out))
  replace HSZ := hid (Nat.le_trans HSZ.out hb6.size)
  have HV6 := hid hv6
  obtain ⟨o6, c6, rfl, -⟩ := hv6.shape
  clear hb6 hv6 HC4 k0 k1 k2 k3 F5
  by_cases he2 : e2 ≠ 0
  · have he' : (e2 != 0) = true := by simpa using he2
    generalize y'.length = yl' at *
    generalize x'.length = xl' at *
    go_wp2
    go_ret
    exact ⟨rfl, HB6.out⟩
  obtain rfl : e2 = 0 := by omega
  by_cases he4 : e4 ≠ 0
  · have he' : (e4 != 0) = true := by simpa using he4
    generalize y'.length = yl' at *
    generalize x'.length = xl' at *
    go_wp2
    go_ret
    exact ⟨rfl, HB6.out⟩
  obtain rfl : e4 = 0 := by omega
  have hxy := moved_comm HX.out (HO2.out rfl) HY.out (HO4.out rfl)
  have HLN := hid (HO2.out rfl).len
  subst hxy
  have HS := hid (sameU_eq x' _ _ _ _ w6 HSZ.out (Nat.le_refl _) HV4.out HV6.out (Nat.le_trans HLN.out (by decide)))
  clear HO2 HO4 HX HY he2 he4
  generalize x'.length = xl' at *
  go_wp2_with fail
  refine HS.out.mono ?_
  rintro e w7 ⟨rfl, hb7⟩
  have HB7 := hid (HB6.out.trans (hb7.mono HB6.out.size))
  clear hb7
  go_wp2
  go_ret
  exact ⟨rfl, HB7.out⟩
end Go.Proofs.Ytnoaohlajllngaa
