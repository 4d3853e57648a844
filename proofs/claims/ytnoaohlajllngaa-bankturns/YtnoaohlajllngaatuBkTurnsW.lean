/-
  BankTurns: the walk.
-/
import Derived.Test.YtnoaohlajllngaatuBkParse
import Derived.Test.YtnoaohlajllngaatuBkLaw
import Derived.Laws.StructEq
namespace Go.Proofs.Ytnoaohlajllngaa
open Go.RowKit

theorem fTr : Try.prog.underlying 37 = some (.struct (Try.prog.fieldsOf 37)) := by kernel_rfl
theorem gTr : Try.prog.stoodInHeld 37 = false := by kernel_rfl
set_option maxRecDepth 10000 in
theorem neqTr (x : Tr) (w : World) : (binOp .neq 37 (.agg #[.string x.denom, .int .u64 (x.amount : Int), .string x.sender, .string x.reader]) (.agg #[.string x.denom, .int .u64 (x.amount : Int), .string x.sender, .string x.reader])).run Try.prog w = .ok (.bool false) w := by
  have u3 := Try.underlying9
  have a3 := Try.isAgg9
  have z3 := Try.sizeOf9
  have u4 := Try.underlying23
  have a4 := Try.isAgg23
  have z4 := Try.sizeOf23
  rw [run_neq_struct, run_equalIn_struct w 9999 _ _ _ fTr gTr]
  simp only [Program.fieldsOf, Try.underlying37]
  go_simp
theorem wrAll_len {l : List Pc} {x : List (BitVec 8)} (h : wrAll l = .ok x) : x.length ≤ 20000 := by
  unfold wrAll at h
  split at h
  · cases h
  · refine (wrGo_ok _ _ _ _ h).2.2 ?_
    have := numB_length 10 l.length (by simp; omega) (by omega)
    omega
theorem bytesT_len (t : Tr) : (bytesT t).length ≤ 140737488355328 := by
  unfold bytesT
  split
  · rename_i x hx
    have := wrAll_len hx
    omega
  · simp
set_option maxRecDepth 100000 in
set_option maxHeartbeats 4000000 in
theorem bankTurns_any (t : Tr) (b : List (BitVec 8)) (sv : Value) (N : Nat) (w : World) (hN : N ≤ w.heap.size) (hb : Bytes w N sv b) (ht : t.fits) (hlen : b.length ≤ 140737488351232) :
    Calls Try.prog 4 #[.agg #[.string t.denom, .int .u64 (t.amount : Int), .string t.sender, .string t.reader], sv] w fun e w' => e = .returned (.bool true) ∧ Below w.heap.size w w' := by
  have HAL := hid alive12
  have HBT := hid (fun W => bytesT_any t W ht)
  have HP1 := hid (fun v W (h : Bytes W W.heap.size v (bytesT t)) => parse_any (bytesT t) v _ W h (Nat.le_refl _) (bytesT_len t))
  have HP2 := hid (fun W (h : Below w.heap.size w W) => parse_any b sv N W (hb.below (h.mono hN)) (Nat.le_trans hN h.size) (by omega))
  have HCV := hid (fun W (h : Below w.heap.size w W) => conv_str (hb.below (h.mono hN)))
  have HX1 := hid (fun h => parse_bytes ht (parseE_zero.1 h))
  have HX2 := hid (fun (h : parseE b = 0) => And.intro (bytes_parse (parseE_zero.1 h)) (parse_fits (parseE_zero.1 h)))
  obtain ⟨oa, ca, rfl, -⟩ := hb.shape
  clear hb ht hlen
  generalize b.length = bl at *
  go_enter Try.func4, Try.ntmps4
  go_upto_region 1 with fail
  refine fbox1 ?_
  intro w0 F0 hs
  clear hs
  go_wp2_with fail
  refine (HAL.out w0).mono ?_
  rintro e w1 ⟨rfl, hb1⟩
  have F1 := F0.go hb1
  obtain ⟨k0, k1, k2, k3⟩ := F1.r0.k4
  clear hb1 F0
  go_wp2_with fail
  refine (HBT.out w1).mono ?_
  rintro e w2 ⟨hb2, v2, rfl, hv2⟩
  have F2 := F1.go hb2
  have HC2 := hid (HP1.out v2 w2 hv2)
  obtain ⟨o2, c2, rfl, -⟩ := hv2.shape
  clear hb2 hv2 F1 k0 k1 k2 k3
  generalize (bytesT t).length = tl at *
  unfold trV at *
  go_wp2_with fail
  refine HC2.out.mono ?_
  rintro e w3 ⟨rfl, hb3⟩
  have F3 := F2.go hb3
  clear hb3 F2
  generalize parseE (bytesT t) = e1 at *
  generalize parseT (bytesT t) = x1 at *
  go_upto_region 4 with fail
  refine F3.box ?_
  intro w4 F4 hs4 hb4
  clear hs4 hb4 F3
  obtain ⟨k0, k1, k2, k3⟩ := F4.r0.k4
  obtain ⟨j0, j1, j2, j3⟩ := F4.r1.k4
  have HB4 := hid F4.b
  clear F4
  by_cases he1 : e1 = 0
  · subst he1
    obtain rfl := HX1.out rfl
    have hq := neqTr x1
    go_wp2_with fail
    refine (HP2.out w4 HB4.out).mono ?_
    rintro e w5 ⟨rfl, hb5⟩
    have HB5 := hid (HB4.out.trans (hb5.mono HB4.out.size))
    clear hb5 k0 k1 k2 k3 j0 j1 j2 j3 hq HP1 HX1 HBT HC2
    generalize parseE b = e2 at *
    generalize parseT b = x2 at *
    go_upto_region 7 with fail
    refine boxK ?_
    intro w6 hr6 hb6
    have HB6 := hid (HB5.out.trans (hb6.mono HB5.out.size))
    have HR6 := hid (fun W (hb : Below w6.heap.size w6 W) => (hr6.below hb hr6.lt).k4)
    clear hr6 hb6
    by_cases he2 : e2 = 0
    · subst he2
      obtain ⟨hbt, hft⟩ := HX2.out rfl
      have HBX := hid (fun W => (bytesT_any x2 W hft).mono (R' := fun e W' => ∃ v, e = .returned v ∧ Below W.heap.size W W' ∧ ByB b v W') (by rintro e W' ⟨hb, v, rfl, h⟩; rw [hbt] at h; obtain ⟨o, c, rfl, -⟩ := h.shape; exact ⟨_, rfl, hb, o, _, c, rfl, h⟩))
      clear hbt hft
      apply region_go (by kernel_rfl) (fun W hb => And.intro (HR6.out W hb) (HCV.out W (HB6.out.trans (hb.mono HB6.out.size)))) (by kernel_rfl)
      · intro σ; simp [slotAll]; exact rfl
      iterate 3 (apply RK.val rfl; · intro σ W hb hc ⟨hd, hu⟩; simp [Fresh, Region.binds] at hd hu; go_simp; exact rfl)
      apply RK.valW
      · intro σ W hb hc ⟨hd, hu⟩; simp [Fresh, Region.binds] at hd hu; refine ⟨by simp [Region.wanted, yielded, *], ?_⟩; go_simp; exact rfl
      apply RK.callGW (ByB b) (ByB.stay _)
      · intro σ W hb hc ⟨hd, hu⟩; simp [Fresh, Region.binds] at hd hu; exact ⟨by simp [Region.wanted, yielded, *], _, _, by go_simp <;> first | exact rfl | exact ⟨rfl, rfl⟩, HBX.out W⟩
      apply RK.valW
      · intro σ W hb hc ⟨hd, hu⟩; simp [Fresh, Region.binds] at hd hu
        obtain ⟨⟨o, n, c, e, h⟩, hz⟩ := hd
        have q := conv_str h
        clear h
        refine ⟨by simp [Region.wanted, yielded, *], ?_⟩
        go_simp
        exact rfl
      iterate 3 (apply RK.valW; · intro σ W hb hc ⟨hd, hu⟩; simp [Fresh, Region.binds] at hd hu; refine ⟨by simp [Region.wanted, yielded, *], ?_⟩; go_simp; exact rfl)
      iterate 2 (apply RK.val rfl; · intro σ W hb hc ⟨hd, hu⟩; simp [Fresh, Region.binds] at hd hu; go_simp; exact rfl)
      intro σ W hb _ hF; simp [AllF] at hF; go_simp; clear hF
      have HB7 := hid (HB6.out.trans (hb.mono HB6.out.size))
      clear hb
      go_wp2
      go_ret
      exact ⟨rfl, HB7.out⟩
    · have e2' : (e2 != 0) = true := by simpa using he2
      apply region_go (C := fun _ => True) (by kernel_rfl) (fun _ _ => trivial) (by kernel_rfl)
      · intro σ; simp [slotAll]; exact rfl
      iterate 3 (apply RK.val rfl; · intro σ W hb hc ⟨hd, hu⟩; simp [Fresh, Region.binds] at hd hu; go_simp; exact rfl)
      iterate 6 (apply RK.pass; · intro σ W hb hc ⟨hd, hu⟩; simp [Fresh, Region.binds] at hd hu; simp [Region.wanted, yielded, *])
      iterate 2 (apply RK.val rfl; · intro σ W hb hc ⟨hd, hu⟩; simp [Fresh, Region.binds] at hd hu; go_simp; exact rfl)
      intro σ W hb _ hF; simp [AllF] at hF; go_simp; clear hF
      have HB7 := hid (HB6.out.trans (hb.mono HB6.out.size))
      clear hb
      go_wp2
      go_ret
      exact ⟨rfl, HB7.out⟩
  · have e1' : (e1 == 0) = false := by simpa using he1
    go_wp2_with fail
    refine (HP2.out w4 HB4.out).mono ?_
    rintro e w5 ⟨rfl, hb5⟩
    have HB5 := hid (HB4.out.trans (hb5.mono HB4.out.size))
    clear hb5 k0 k1 k2 k3 j0 j1 j2 j3 HP1 HX1 HBT HC2
    generalize parseE b = e2 at *
    generalize parseT b = x2 at *
    go_upto_region 7 with fail
    refine boxK ?_
    intro w6 hr6 hb6
    have HB6 := hid (HB5.out.trans (hb6.mono HB5.out.size))
    have HR6 := hid (fun W (hb : Below w6.heap.size w6 W) => (hr6.below hb hr6.lt).k4)
    clear hr6 hb6
    by_cases he2 : e2 = 0
    · subst he2
      obtain ⟨hbt, hft⟩ := HX2.out rfl
      have HBX := hid (fun W => (bytesT_any x2 W hft).mono (R' := fun e W' => ∃ v, e = .returned v ∧ Below W.heap.size W W' ∧ ByB b v W') (by rintro e W' ⟨hb, v, rfl, h⟩; rw [hbt] at h; obtain ⟨o, c, rfl, -⟩ := h.shape; exact ⟨_, rfl, hb, o, _, c, rfl, h⟩))
      clear hbt hft
      apply region_go (by kernel_rfl) (fun W hb => And.intro (HR6.out W hb) (HCV.out W (HB6.out.trans (hb.mono HB6.out.size)))) (by kernel_rfl)
      · intro σ; simp [slotAll]; exact rfl
      iterate 3 (apply RK.val rfl; · intro σ W hb hc ⟨hd, hu⟩; simp [Fresh, Region.binds] at hd hu; go_simp; exact rfl)
      apply RK.valW
      · intro σ W hb hc ⟨hd, hu⟩; simp [Fresh, Region.binds] at hd hu; refine ⟨by simp [Region.wanted, yielded, *], ?_⟩; go_simp; exact rfl
      apply RK.callGW (ByB b) (ByB.stay _)
      · intro σ W hb hc ⟨hd, hu⟩; simp [Fresh, Region.binds] at hd hu; exact ⟨by simp [Region.wanted, yielded, *], _, _, by go_simp <;> first | exact rfl | exact ⟨rfl, rfl⟩, HBX.out W⟩
      apply RK.valW
      · intro σ W hb hc ⟨hd, hu⟩; simp [Fresh, Region.binds] at hd hu
        obtain ⟨⟨o, n, c, e, h⟩, hz⟩ := hd
        have q := conv_str h
        clear h
        refine ⟨by simp [Region.wanted, yielded, *], ?_⟩
        go_simp
        exact rfl
      iterate 3 (apply RK.valW; · intro σ W hb hc ⟨hd, hu⟩; simp [Fresh, Region.binds] at hd hu; refine ⟨by simp [Region.wanted, yielded, *], ?_⟩; go_simp; exact rfl)
      iterate 2 (apply RK.val rfl; · intro σ W hb hc ⟨hd, hu⟩; simp [Fresh, Region.binds] at hd hu; go_simp; exact rfl)
      intro σ W hb _ hF; simp [AllF] at hF; go_simp; clear hF
      have HB7 := hid (HB6.out.trans (hb.mono HB6.out.size))
      clear hb
      go_wp2
      go_ret
      exact ⟨rfl, HB7.out⟩
    · have e2' : (e2 != 0) = true := by simpa using he2
      apply region_go (C := fun _ => True) (by kernel_rfl) (fun _ _ => trivial) (by kernel_rfl)
      · intro σ; simp [slotAll]; exact rfl
      iterate 3 (apply RK.val rfl; · intro σ W hb hc ⟨hd, hu⟩; simp [Fresh, Region.binds] at hd hu; go_simp; exact rfl)
      iterate 6 (apply RK.pass; · intro σ W hb hc ⟨hd, hu⟩; simp [Fresh, Region.binds] at hd hu; simp [Region.wanted, yielded, *])
      iterate 2 (apply RK.val rfl; · intro σ W hb hc ⟨hd, hu⟩; simp [Fresh, Region.binds] at hd hu; go_simp; exact rfl)
      intro σ W hb _ hF; simp [AllF] at hF; go_simp; clear hF
      have HB7 := hid (HB6.out.trans (hb.mono HB6.out.size))
      clear hb
      go_wp2
      go_ret
      exact ⟨rfl, HB7.out⟩
end Go.Proofs.Ytnoaohlajllngaa
