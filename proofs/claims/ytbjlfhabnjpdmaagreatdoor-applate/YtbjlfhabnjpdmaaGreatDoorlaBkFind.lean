/-
  Where a purse stands in a list that rises: package bank's find, and how much somebody has.
-/
import Derived.Test.YtbjlfhabnjpdmaaGreatDoorlaBkMath
import Derived.Test.YtbjlfhabnjpdmaaGreatDoorlaStCmp
import Derived.Test.YtbjlfhabnjpdmaaGreatDoorlaFrKit
import Derived.Test.YtbjlfhabnjpdmaaGreatDoorlaRegGo
import Derived.Test.YtbjlfhabnjpdmaaGreatDoorlaStMem
import Derived.BigQuiet
namespace Go.Proofs.YtbjlfhabnjpdmaaGreatDoor
open Go.RowKit

/-- where a purse stands, or would stand -/
structure AtU (l : List Pu) (o d : ByteArray) (i : Nat) (fd : Bool) : Prop where
  le : i ≤ l.length
  lo : ∀ t p, t < i → l[t]? = some p → lessPu p ⟨o, d, 0⟩ = true
  hi : ∀ t p, i ≤ t → l[t]? = some p → lessPu p ⟨o, d, 0⟩ = false
  fd : fd = true ↔ ∃ p, l[i]? = some p ∧ p.owner = o ∧ p.denom = d
def cmpU (a : Pu) (o d : ByteArray) : Int := orN [cmpS a.owner o, cmpS a.denom d]
theorem cmpU_neg (a : Pu) (o d : ByteArray) : cmpU a o d < 0 ↔ lessPu a ⟨o, d, 0⟩ = true := by
  rw [lessPu_cmp]
  simp [cmpU]
theorem cmpS_zero (a b : ByteArray) : cmpS a b = 0 ↔ a = b := by
  unfold cmpS
  rw [(bytesLess_cmp _ _).2]
  constructor
  · intro h; exact ByteArray.ext (Array.toList_inj.1 h)
  · intro h; rw [h]
theorem cmpU_zero (a : Pu) (o d : ByteArray) : cmpU a o d = 0 ↔ a.owner = o ∧ a.denom = d := by
  unfold cmpU
  rw [orN_iff]
  simp [cmpS_zero]
theorem sortU_lt {l : List Pu} (h : SortU l) {i j : Nat} {a b : Pu} (hij : i < j) (ha : l[i]? = some a) (hb : l[j]? = some b) : lessPu a b = true := by
  obtain ⟨h1, e1⟩ := List.getElem?_eq_some_iff.1 ha
  obtain ⟨h2, e2⟩ := List.getElem?_eq_some_iff.1 hb
  have h' : l.Pairwise fun a b => lessPu a b = true := h
  rw [List.pairwise_iff_getElem] at h'
  have := h' i j h1 h2 hij
  rwa [e1, e2] at this
def FoundU (l : List Pu) (o d : ByteArray) (e : Ending) : Prop := ∃ i fd, AtU l o d i fd ∧ e = .returned (.tuple #[.int .i64 (i : Nat), .bool fd])
set_option maxRecDepth 100000 in
set_option maxHeartbeats 4000000 in
theorem psearch_any (l : List Pu) (o d : ByteArray) (sv : Value) (N : Nat) (w : World) (lb : Array Value) (hlb : lb = #[]) (hN : N ≤ w.heap.size) (hl : Many PuR 3 w N sv l) (hs : SortU l) (hlen : l.length ≤ 1000000) :
    Calls Tryz.prog 325 #[sv, .agg #[.string o, .string d, .int .u64 0], .func (.func 43) #[] lb] w fun e w' => Below w.heap.size w w' ∧ FoundU l o d e := by
  subst hlb
  obtain ⟨oa, ca, rfl, hca⟩ := hl.shape
  have HL := hid hl
  have HS := hid hs
  clear hl hs
  generalize hn : l.length = n at *
  have HN := hid hn
  clear hn
  have HCMP := hid (show ∀ (b f j : Nat) (p : Pu), oa = some ⟨b, f, none⟩ → l[j]? = some p → ∀ W, Below w.heap.size w W → (W.cell? ⟨b, f + j * 3, none⟩ = some (.string p.owner) ∧ W.cell? ⟨b, f + j * 3 + 1, none⟩ = some (.string p.denom) ∧ W.cell? ⟨b, f + j * 3 + 2, none⟩ = some (.int .u64 (p.amount : Int))) from by
    intro b f j p hoa hp W hb
    obtain ⟨b', f', he, hcells⟩ := HL.out.spot (by have := (List.getElem?_eq_some_iff.1 hp).1; rw [HN.out] at this; omega)
    rw [hoa] at he
    obtain ⟨rfl, rfl⟩ : b = b' ∧ f = f' := by simpa using he
    obtain ⟨hbN, r, rfl, hc⟩ := hcells j p hp
    have c0 := hc 0 _ rfl
    rw [Nat.add_zero] at c0
    exact ⟨(hb.cell (p := ⟨b, f + j * 3, none⟩) (by show b < _; omega)).trans c0, (hb.cell (p := ⟨b, f + j * 3 + 1, none⟩) (by show b < _; omega)).trans (hc 1 _ rfl), (hb.cell (p := ⟨b, f + j * 3 + 2, none⟩) (by show b < _; omega)).trans (hc 2 _ rfl)⟩)
  go_enter Tryz.func325, Tryz.ntmps325
  go_upto_region 1 with fail
  refine fbox1 ?_
  intro w0 F0 hs0
  have HB0 := hid F0.b
  have HR0 := hid (fun W (hb : Below w0.heap.size w0 W) => (F0.go hb).r0.k3)
  clear hs0 F0
  go_wp2_with fail
  go_loopw [9, 10] (fun s9 s10 wr => ∃ lo hi : Nat, s9 = .int .i64 lo ∧ s10 = .int .i64 hi ∧ lo ≤ hi ∧ hi ≤ n ∧ Hid (Below w0.heap.size w0 wr) ∧ Hid ((∀ t p, t < lo → l[t]? = some p → lessPu p ⟨o, d, 0⟩ = true) ∧ (∀ t p, hi ≤ t → l[t]? = some p → lessPu p ⟨o, d, 0⟩ = false))) (fun s9 s10 _ => (intOf s10).toNat - (intOf s9).toNat)
  case atStart => exact ⟨0, n, rfl, rfl, Nat.zero_le _, Nat.le_refl _, Below.refl _ _, fun t p ht => absurd ht (Nat.not_lt_zero _), fun t p h1 h2 => by have := (List.getElem?_eq_some_iff.1 h2).1; rw [HN.out] at this; omega⟩
  case round =>
    obtain ⟨lo, hi, rfl, rfl, hlh, hin, HB, HI⟩ := hrel
    have HBW := hid (HB0.out.trans (HB.out.mono HB0.out.size))
    by_cases hlt : lo < hi
    · have hml : (lo + hi) / 2 < n := by omega
      obtain ⟨h, hh⟩ : ∃ h, (lo + hi) / 2 = h := ⟨_, rfl⟩
      rw [hh] at hml
      obtain ⟨p, hp⟩ : ∃ p, l[h]? = some p := ⟨l[h]'(by rw [HN.out]; exact hml), List.getElem?_eq_getElem _⟩
      obtain ⟨b, f, rfl, _⟩ := HL.out.spot (by omega)
      have HCC := hid (HCMP.out b f _ p rfl hp)
      have HP := hid hp
      clear hp
      have hln : (h : Int) < (n : Int) := by omega
      have hh1 : ((lo : Int) + (hi : Int)) / 2 = (h : Int) := by omega
      have hlt' : (lo : Int) < (hi : Int) := by omega
      have HH := hid hh
      clear hh
      have HK := hid (comparePurses_any p ⟨o, d, 0⟩)
      have HU := hid (cmpU_neg p o d)
      have HV := hid (show orN [cmpS p.owner o, cmpS p.denom d] = cmpU p o d from rfl)
      generalize cmpU p o d = cc at *
      go_upto_region 5 with fail
      apply region_go (by kernel_rfl) (fun W hb => And.intro (HR0.out W (HB.out.trans (hb.mono HB.out.size))) (HCC.out W (HBW.out.trans (hb.mono HBW.out.size)))) (by kernel_rfl)
      · intro σ; simp [slotAll]; exact rfl
      iterate 6 (apply RK.val rfl; · intro σ W hb hc hd; simp [Has, Fresh, Region.binds] at hd; go_simp; exact rfl)
      apply RK.callV rfl
      · intro σ W hb hc hd; simp [Has, Fresh, Region.binds] at hd; go_simp; exact ⟨rfl, rfl⟩
      · intro W _ _; have := HK.out W; rw [HV.out] at this; exact this
      apply RK.val rfl
      · intro σ W hb hc hd; simp [Has, Fresh, Region.binds] at hd; go_simp; exact rfl
      intro σ W hb _ hF; simp [AllF] at hF; go_simp; clear hF
      have HB2 := hid (HB.out.trans (hb.mono HB.out.size))
      clear hb
      by_cases hyx : cc < 0
      · have HLT := hid (HU.out.1 hyx)
        have hyx' : decide (cc < 0) = true := by simpa using hyx
        go_wp2_with fail
        have hx := HH.out
        refine ⟨⟨h + 1, hi, by go_num, rfl, by omega, hin, HB2.out, ?_, HI.out.2⟩, by simp [intOf]; omega⟩
        intro t q ht hq
        by_cases e : t = h
        · subst e
          rw [HP.out] at hq
          obtain rfl : p = q := by simpa using hq
          exact HLT.out
        · exact lessPu_trans (sortU_lt HS.out (show t < h by omega) hq HP.out) HLT.out
      · have HLT := hid (fun h => hyx (HU.out.2 h))
        have hyx' : decide (cc < 0) = false := by simpa using hyx
        go_wp2_with fail
        have hx := HH.out
        refine ⟨⟨lo, h, rfl, by go_num, by omega, by omega, HB2.out, HI.out.1, ?_⟩, by simp [intOf]; omega⟩
        intro t q ht hq
        have hph : lessPu p ⟨o, d, 0⟩ = false := by simpa using HLT.out
        by_cases e : t = h
        · subst e
          rw [HP.out] at hq
          obtain rfl : p = q := by simpa using hq
          exact hph
        · cases hqq : lessPu q ⟨o, d, 0⟩ with
          | false => rfl
          | true =>
            have := lessPu_trans (sortU_lt HS.out (show h < t by omega) HP.out hq) hqq
            rw [hph] at this
            cases this
    · obtain rfl : hi = lo := by omega
      have hge : decide ((hi : Int) < (hi : Int)) = false := by simp
      by_cases hn : hi < n
      · obtain ⟨p, hp⟩ : ∃ p, l[hi]? = some p := ⟨l[hi]'(by rw [HN.out]; exact hn), List.getElem?_eq_getElem _⟩
        obtain ⟨b, f, rfl, _⟩ := HL.out.spot (by omega)
        have HCC := hid (HCMP.out b f _ p rfl hp)
        have hlt' : (hi : Int) < (n : Int) := by omega
        have hlt2 : decide ((hi : Int) < (n : Int)) = true := by simpa using hlt'
        have HK := hid (comparePurses_any p ⟨o, d, 0⟩)
        have HV := hid (show orN [cmpS p.owner o, cmpS p.denom d] = cmpU p o d from rfl)
        obtain ⟨fd, hfd⟩ : ∃ fd, (cmpU p o d == 0) = fd := ⟨_, rfl⟩
        have HAT := hid (show AtU l o d hi fd from ⟨by rw [HN.out]; exact hin, HI.out.1, HI.out.2, by
          rw [← hfd, beq_iff_eq, cmpU_zero]
          constructor
          · intro h
            exact ⟨p, hp, h⟩
          · rintro ⟨q, hq, h⟩
            rw [hp] at hq
            obtain rfl : p = q := by simpa using hq
            exact h⟩)
        have HFD := hid hfd
        clear hp hfd
        generalize cmpU p o d = cc at *
        go_upto_region 8 with fail
        apply region_go (by kernel_rfl) (fun W hb => And.intro (HR0.out W (HB.out.trans (hb.mono HB.out.size))) (HCC.out W (HBW.out.trans (hb.mono HBW.out.size)))) (by kernel_rfl)
        · intro σ; simp [slotAll]; exact rfl
        iterate 5 (apply RK.val rfl; · intro σ W hb hc hd; simp [Has, Fresh, Region.binds] at hd; go_simp; exact rfl)
        iterate 6 (apply RK.valW; · intro σ W hb hc hd; simp [Has, Fresh, Region.binds] at hd; refine ⟨by simp [Region.wanted, yielded, *], ?_⟩; go_simp; exact rfl)
        apply RK.callW
        · intro σ W hb hc hd; simp [Has, Fresh, Region.binds] at hd; refine ⟨by simp [Region.wanted, yielded, *], ?_⟩; go_simp; exact ⟨rfl, rfl⟩
        · intro W _ _; have := HK.out W; rw [HV.out] at this; exact this
        apply RK.valW
        · intro σ W hb hc hd; simp [Has, Fresh, Region.binds] at hd; refine ⟨by simp [Region.wanted, yielded, *], ?_⟩; go_simp; exact rfl
        iterate 3 (apply RK.val rfl; · intro σ W hb hc hd; simp [Has, Fresh, Region.binds] at hd; go_simp; exact rfl)
        intro σ W hb _ hF; simp [AllF] at hF; go_simp; clear hF
        have HB2 := hid (HBW.out.trans (hb.mono HBW.out.size))
        clear hb
        go_wp2
        go_ret2
        exact ⟨HB2.out, hi, fd, HAT.out, by rw [← HFD.out]; rfl⟩
      · have hlt2 : decide ((hi : Int) < (n : Int)) = false := by simp; omega
        have HAT := hid (show AtU l o d hi false from ⟨by rw [HN.out]; exact hin, HI.out.1, HI.out.2, by
          constructor
          · intro h
            cases h
          · rintro ⟨q, hq, h⟩
            have := (List.getElem?_eq_some_iff.1 hq).1
            rw [HN.out] at this
            omega⟩)
        go_upto_region 8 with fail
        apply region_go (C := fun _ => True) (by kernel_rfl) (fun _ _ => trivial) (by kernel_rfl)
        · intro σ; simp [slotAll]; exact rfl
        iterate 5 (apply RK.val rfl; · intro σ W hb hc hd; simp [Has, Fresh, Region.binds] at hd; go_simp; exact rfl)
        iterate 8 (apply RK.pass; · intro σ W hb hc hd; simp [Has, Fresh, Region.binds] at hd; simp [Region.wanted, yielded, *])
        iterate 3 (apply RK.val rfl; · intro σ W hb hc hd; simp [Has, Fresh, Region.binds] at hd; go_simp; exact rfl)
        intro σ W hb _ hF; simp [AllF] at hF; go_simp; clear hF
        have HB2 := hid (HBW.out.trans (hb.mono HBW.out.size))
        clear hb
        go_wp2
        go_ret2
        exact ⟨HB2.out, hi, false, HAT.out, rfl⟩
/-- .. what stands ahead of it, and behind -/
theorem AtU.cut {l : List Pu} {o d : ByteArray} {i : Nat} {fd : Bool} (h : AtU l o d i fd) (hs : SortU l) : l.take i = aheadU l o d ∧ (fd = true → ∃ n, l[i]? = some ⟨o, d, n⟩ ∧ amtU l o d = n ∧ l.drop (i + 1) = behindU l o d) ∧ (fd = false → amtU l o d = 0 ∧ l.drop i = behindU l o d) := by
  have e1 : l.take i = aheadU l o d := by
    unfold aheadU
    conv => rhs; rw [← List.take_append_drop i l, List.filter_append]
    rw [List.filter_eq_self.2, List.filter_eq_nil_iff.2, List.append_nil]
    · intro p hp
      obtain ⟨t, ht⟩ := List.getElem?_of_mem hp
      rw [List.getElem?_drop] at ht
      rw [h.hi (i + t) p (by omega) ht]
      simp
    · intro p hp
      obtain ⟨t, ht⟩ := List.getElem?_of_mem hp
      rw [List.getElem?_take] at ht
      split at ht
      · rename_i hlt
        exact h.lo t p hlt ht
      · cases ht
  obtain ⟨s1, s2⟩ := split_same l o d hs
  have e2 := amt_same hs o d
  have e3 : l.drop i = l.filter (isU o d) ++ behindU l o d := by
    have := List.take_append_drop i l
    rw [e1] at this
    rw [s1] at this
    have h2 : aheadU l o d ++ l.drop i = aheadU l o d ++ (l.filter (isU o d) ++ behindU l o d) := by
      rw [← s1] at this
      rw [this]; exact s1
    exact List.append_cancel_left h2
  refine ⟨e1, fun hf => ?_, fun hf => ?_⟩
  · obtain ⟨p, hp, ho, hd⟩ := h.fd.1 hf
    have hm : p ∈ l.filter (isU o d) := List.mem_filter.2 ⟨List.mem_of_getElem? hp, by simp [isU, ho, hd]⟩
    rcases s2 with s2 | ⟨n, s2, -⟩
    · rw [s2] at hm; cases hm
    · rw [s2] at hm e3 e2
      obtain rfl := List.mem_singleton.1 hm
      refine ⟨n, hp, by rw [e2]; simp [amtU, isU], ?_⟩
      rw [← List.drop_drop, e3]
      rfl
  · rcases s2 with s2 | ⟨n, s2, hn⟩
    · rw [s2] at e3 e2
      exact ⟨e2, e3⟩
    · rw [s2] at e3
      have : l[i]? = some ⟨o, d, n⟩ := by
        have := congrArg (fun x => x[0]?) e3
        simpa using this
      have := h.fd.2 ⟨_, this, rfl, rfl⟩
      rw [hf] at this
      cases this
end Go.Proofs.YtbjlfhabnjpdmaaGreatDoor
