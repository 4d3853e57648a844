/-
  What the document's Sum answers: any bytes' digest, as long as they are no longer than a machine can hold.
-/
import Derived.Test.YtjfhhlgblmjonaaDoorRefSumB6
import Derived.Test.YtjfhhlgblmjonaaDoorRefSumB16
namespace Go.Proofs.YtjfhhlgblmjonaaDoor
open Go.RowKit
set_option maxRecDepth 100000 in
set_option maxHeartbeats 4000000 in
theorem refSum_any (l : List (BitVec 8)) (sv : Value) (N : Nat) (w : World) (hN : N ≤ w.heap.size) (hb : Bytes w N sv l) (hlen : l.length ≤ 140737488352232) :
    Calls Tryd.prog 51 #[sv] w fun e w' =>
      ∃ v, e = .returned v ∧ w'.ownsRow w.heap.size 5 1 v 32 ((sha l).map V) ∧ Below w.heap.size w w' := by
  obtain ⟨i8, hi8, hz8, hs8, hb8⟩ := info_parts info_u8
  obtain ⟨i32, hi32, hz32, hs32, hb32⟩ := info_parts info_u32
  obtain ⟨oa, cap, rfl, hcap⟩ := hb.shape
  have HBY := hid hb
  have HLEN := hid hlen
  clear hb hlen
  go_enter Tryd.func51, Tryd.ntmps51
  go_wp2_with fail
  refine (primes_any _).mono ?_
  rintro e w1 ⟨vp, rfl, hownp, hb1⟩
  have hsz1 := hb1.size
  obtain ⟨op, capp, rfl, hcp, hsomep⟩ := ownsRow_shape hownp
  obtain ⟨gp, rfl, hgp, hglp, hcellp⟩ := hsomep (by omega)
  have HP := hid hcellp
  have HB1 := hid hb1
  clear hownp hb1 hcellp
  go_wp2_with fail
  go_loopw [4, 5, 41] (fun vk vh i wr => ∃ t : Nat, t ≤ 64 ∧ i = .int .i64 t ∧ wr.ownsRow w1.heap.size 69 1 vk t ((kTo t).map U) ∧ wr.ownsRow w1.heap.size 69 1 vh (min t 8) ((hTo (min t 8)).map U) ∧ Apart vk vh ∧ Below w1.heap.size w1 wr) (fun _ _ i _ => 64 - (intOf i).toNat)
  case atStart => exact ⟨0, by omega, rfl, World.ownsRow_nil _ _ _ _, World.ownsRow_nil _ _ _ _, apart_nil _, Below.refl _ _⟩
  case round =>
    obtain ⟨t, ht, rfl, hk, hh, hap, hbe⟩ := hrel
    have hszr := hbe.size
    by_cases hlt : t < 64
    · obtain ⟨p, hp⟩ : ∃ p, (primesTo 310).getD t 0 = p := ⟨_, rfl⟩
      have hpl := prime_lt t hlt
      have hks := kTo_succ t hlt
      have hhs := hTo_succ t hlt
      have dp : wr.cell? ⟨gp, t, none⟩ = some (.int .u64 (p : Int)) := by
        rw [hbe.cell (by show gp < w1.heap.size; exact hglp), (HP.out t hlt).1, List.getElem?_map, getD_some (primesTo 310) t 0 (by rw [primes_310]; exact hlt), hp]; rfl
      rw [hp] at hpl hks hhs
      have HK := hid hk
      have HH := hid hh
      have HAP := hid hap
      have HBE := hid hbe
      have HKS := hid hks
      have HHS := hid hhs
      have HPL := hid hpl
      have hlt' : (t : Int) < 64 := by omega
      clear hk hh hap hbe hks hhs hpl hp
      by_cases h8 : t < 8
      · have h8' : (t : Int) < 8 := by omega
        have hmin : min t 8 = t := by omega
        go_wp2_with (first | (go_at_call 65; refine (root_any p _ HPL.out _).mono ?_; rintro e w' ⟨rfl, hw⟩; obtain rfl := hw.symm; clear hw) | (at_builtin; refine wpList_append_lies _ rfl (.tmp 46) (.tmp 49) 88 rfl w1.heap.size 69 i32 (.int .u32 0) 1 4 Tryd.underlying88 hi32 hz32 hs32 hb32 rfl (by decide) _ _ _ rfl (HK.out.alloc _) ⟨wr.heap.size, 0, none⟩ 1 1 [U (rootWord p false)] rfl rfl (cells_new _ _ _) (by simp [U, Value.oneCell']) (by decide) (by unfold maxLen; omega) (by omega) (by simp; omega) (wr.heap.size + 1) (by simp) ?_; intro g1 cap1 w2 hown1 hgrow1 hat1 hlt1; have HH2 := hid ((HH.out.alloc _).kept hgrow1 HAP.out.symm.ne); have HAP2 := hid (HAP.out.app (n := t + 1) (cap := cap1) hat1 (fun k hk => Nat.lt_succ_of_lt (HH.out.lt k hk).2)); have HO1 := hid hown1; have HBE2 := hid (below_app HBE.out hszr HK.out _ hgrow1); have hsz2 := HBE2.out.size; clear hown1 hgrow1 hat1 hlt1) | (at_builtin; refine wpList_append_lies _ rfl (.tmp 53) (.tmp 56) 88 rfl w1.heap.size 69 i32 (.int .u32 0) 1 4 Tryd.underlying88 hi32 hz32 hs32 hb32 rfl (by decide) _ _ _ rfl (HH2.out.alloc _) ⟨w2.heap.size, 0, none⟩ 1 1 [U (rootWord p true)] rfl rfl (cells_new _ _ _) (by simp [U, Value.oneCell']) (by decide) (by unfold maxLen; omega) (by omega) (by simp; omega) (w2.heap.size + 1) (by simp) ?_; intro g2 cap2 w3 hown2 hgrow2 hat2 hlt2; have HO2 := hid hown2; have HK3 := hid ((HO1.out.alloc _).kept hgrow2 HAP2.out.ne); have HAP3 := hid (HAP2.out.symm.app (n := min t 8 + 1) (cap := cap2) hat2 (fun k hk => Nat.lt_succ_of_lt (HO1.out.lt k hk).2)); have HBE3 := hid (below_app HBE2.out hsz2 HH2.out _ hgrow2); clear hown2 hgrow2 hat2 hlt2))
        go_roundw
        case rel =>
          have hm2 : min (t + 1) 8 = t + 1 := by omega
          refine ⟨t + 1, by omega, by go_num, ?_, ?_, HAP3.out.symm, HBE3.out⟩
          · rw [HKS.out, List.map_append]; exact HK3.out
          · have h := HO2.out
            rw [hm2, HHS.out, List.map_append]
            rw [hmin] at h
            exact h
        case measure => simp [intOf]; omega
      · have h8' : (8 : Int) ≤ (t : Int) := by omega
        go_wp2_with (first | (go_at_call 65; refine (root_any p _ HPL.out _).mono ?_; rintro e w' ⟨rfl, hw⟩; obtain rfl := hw.symm; clear hw) | (at_builtin; refine wpList_append_lies _ rfl (.tmp 46) (.tmp 49) 88 rfl w1.heap.size 69 i32 (.int .u32 0) 1 4 Tryd.underlying88 hi32 hz32 hs32 hb32 rfl (by decide) _ _ _ rfl (HK.out.alloc _) ⟨wr.heap.size, 0, none⟩ 1 1 [U (rootWord p false)] rfl rfl (cells_new _ _ _) (by simp [U, Value.oneCell']) (by decide) (by unfold maxLen; omega) (by omega) (by simp; omega) (wr.heap.size + 1) (by simp) ?_; intro g1 cap1 w2 hown1 hgrow1 hat1 hlt1; have HH2 := hid ((HH.out.alloc _).kept hgrow1 HAP.out.symm.ne); have HAP2 := hid (HAP.out.app (n := t + 1) (cap := cap1) hat1 (fun k hk => Nat.lt_succ_of_lt (HH.out.lt k hk).2)); have HO1 := hid hown1; have HBE2 := hid (below_app HBE.out hszr HK.out _ hgrow1); have hsz2 := HBE2.out.size; clear hown1 hgrow1 hat1 hlt1))
        go_roundw
        case rel =>
          have hm1 : min t 8 = 8 := by omega
          have hm2 : min (t + 1) 8 = 8 := by omega
          refine ⟨t + 1, by omega, by go_num, ?_, ?_, HAP2.out, HBE2.out⟩
          · rw [HKS.out, List.map_append]; exact HO1.out
          · have h := HH2.out
            rw [hm1] at h
            rw [hm2]; exact h
        case measure => simp [intOf]; omega
    · obtain rfl : t = 64 := by omega
      obtain ⟨wA, hA⟩ : ∃ wA, wA = wr := ⟨_, rfl⟩
      subst hA
      rw [kTo_all] at hk
      have hh8 : min 64 8 = 8 := rfl
      rw [hh8, hTo_all] at hh
      obtain ⟨ok, capk, rfl, _, hsk⟩ := ownsRow_shape hk
      obtain ⟨gk, rfl, hgk, hglk, _⟩ := hsk (by omega)
      obtain ⟨oh, caph, rfl, _, hsh⟩ := ownsRow_shape hh
      obtain ⟨gh, rfl, hgh, hglh, _⟩ := hsh (by omega)
      have hgne : gk ≠ gh := fun e => hap gk rfl (by rw [e]; rfl)
      have hbel : Below w.heap.size w wA := HB1.out.trans (hbe.mono hsz1)
      have hby := HBY.out.below (hbel.mono hN)
      have hby1 := hby.below (N := N) (w' := wA.alloc (.cells #[] 5)) ((Below.refl _ _).alloc (by omega) _)
      have HK := hid hk
      have HH := hid hh
      have HBEL := hid hbel
      have HBY1 := hid hby1
      clear hk hh hap hbe hsk hsh hh8 HP hbel hby hby1 HBY HB1
      -- the message: what came, the mark, zeros, the size
      have HMT := hid (World.ownsRow_made (e := 5) (size := 1) (base := wA.heap.size) wA #[] 0 (Nat.le_refl _) (by decide) rfl)
      have hn47 := HLEN.out
      generalize hll : l.length = n at *
      have HLL := hid hll
      clear hll
      go_wp2_with (first
        | (at_builtin; refine wpList_append_bytes rfl (.tmp 59) (.tmp 60) rfl wA.heap.size _ _ _ rfl HMT.out _ l rfl HBY1.out (by rw [HLL.out]; omega) (by simp) ?_; intro v3 w3 hown3 hb3; have hsz3 := hb3.size; have HO3 := hid hown3; have HB3 := hid (((Below.refl _ _).alloc (Nat.le_refl _) _).trans hb3 : Below wA.heap.size wA w3); clear hown3 hb3)
        | (at_builtin; refine wpList_append_own _ rfl (.tmp 61) (.tmp 62) 23 rfl wA.heap.size 5 i8 (.int .u8 0) 1 1 Tryd.underlying23 hi8 hz8 hs8 hb8 rfl (by decide) _ _ _ rfl (HO3.out.alloc _) ⟨w3.heap.size, 0, none⟩ 1 1 [V 128] rfl rfl (cells_new _ _ _) (by simp [V, Value.oneCell']) (by rw [HLL.out]; unfold maxLen; omega) (by rw [HLL.out]; omega) (by have h := HB3.out.size; simp; omega) ?_; intro v4 w4 hown4 hg4 _; have HO4 := hid hown4; have HB4 := hid (below_app HB3.out (HB3.out.size) HO3.out _ hg4); clear hown4 hg4))
      have HO4' : Hid (w4.ownsRow wA.heap.size 5 1 v4 (n + 1 + 0) ((padTo l 0 0).map V)) := hid (by
        have h := HO4.out
        rw [HLL.out] at h
        simpa [padTo] using h)
      clear HO4 HO3 HB3 hsz3 HMT HBY1
      go_loopw [8] (fun v w' => ∃ z : Nat, z ≤ zeros n ∧ w'.ownsRow wA.heap.size 5 1 v (n + 1 + z) ((padTo l z 0).map V) ∧ Below wA.heap.size wA w') (fun v _ => n + 1 + zeros n - lenOf v)
      case atStart => exact ⟨0, by omega, HO4'.out, HB4.out⟩
      case round =>
        clear HO4' HB4
        obtain ⟨z, hz, hown, hbe⟩ := hrel
        obtain ⟨om, capm, rfl, hcm, hsm⟩ := ownsRow_shape hown
        have hszr := hbe.size
        have HO := hid hown
        have HB := hid hbe
        have hz64 : zeros n < 64 := by unfold zeros; omega
        clear hown hbe hsm
        by_cases hlt : z < zeros n
        ·
          have hmore := pad_more n z hlt
          generalize hq : n + 1 + z = q at *
          have HQ := hid hq
          have hq48 : (q : Int) < 140737488355328 := by omega
          have hq48' : q < 140737488355328 := by omega
          clear hq
          go_wp2_with (at_builtin; refine wpList_append_own _ rfl (.tmp 68) (.tmp 69) 23 rfl wA.heap.size 5 i8 (.int .u8 0) 1 1 Tryd.underlying23 hi8 hz8 hs8 hb8 rfl (by decide) _ _ _ rfl (HO.out.alloc _) ⟨wr.heap.size, 0, none⟩ 1 1 [V 0] rfl rfl (cells_new _ _ _) (by simp [V, Value.oneCell']) (by unfold maxLen; omega) (by omega) (by simp; omega) ?_; intro v5 w5 hown5 hg5 _; have HO5 := hid hown5; have HB5 := hid (below_app HB.out hszr HO.out _ hg5); clear hown5 hg5)
          go_roundw
          case rel =>
            refine ⟨z + 1, by omega, ?_, HB5.out⟩
            have h := HO5.out
            rw [padTo_zero, List.map_append, show n + 1 + (z + 1) = q + 1 by have := HQ.out; omega]
            exact h
          case measure =>
            obtain ⟨o5, c5, h5, _⟩ := ownsRow_shape HO5.out
            rw [h5]
            have := HQ.out
            simp [lenOf]
            omega
        · obtain rfl : z = zeros n := by omega
          have hdone := pad_done n
          generalize hq : n + 1 + zeros n = q at *
          have HQ := hid hq
          have hq48 : (q : Int) < 140737488355328 := by omega
          have hq48' : q < 140737488352900 := by omega
          have hwl : IntKind.u64.wrap (n : Int) = (n : Int) := by simp [IntKind.wrap, IntKind.bits, IntKind.signed]; omega
          have hwm : IntKind.u64.wrap ((8 : Int) * (n : Int)) = ((8 * n : Nat) : Int) := by simp [IntKind.wrap, IntKind.bits, IntKind.signed]; omega
          clear hq
          go_wp2_with fail
          have HO0 : Hid (wr.ownsRow wA.heap.size 5 1 (.slice om q capm) (q + 0) ((padTo l (zeros n) 0).map V)) := hid HO.out
          clear hdone hwl hwm
          go_loopw [8, 10] (fun v i w' => ∃ r : Nat, r ≤ 8 ∧ i = .int .i64 ((7 : Int) - (r : Int)) ∧ w'.ownsRow wA.heap.size 5 1 v (q + r) ((padTo l (zeros n) r).map V) ∧ Below wA.heap.size wA w') (fun _ i _ => (intOf i + 1).toNat)
          case atStart => exact ⟨0, by omega, by go_num, HO0.out, HB.out⟩
          case round =>
            clear HO0 HO HB
            obtain ⟨r, hr, rfl, hown, hbe⟩ := hrel
            have hszr := hbe.size
            have HO := hid hown
            have HB := hid hbe
            clear hown hbe
            by_cases hlt : r < 8
            ·
              have e1 : ((8 : Int) * ((7 : Int) - (r : Int))).toNat = 8 * (7 - r) := by omega
              have h1 : (0 : Int) ≤ (8 : Int) * ((7 : Int) - (r : Int)) := by omega
              have h0 : (0 : Int) ≤ (7 : Int) - (r : Int) := by omega
              have h0' : (r : Int) ≤ 7 := by omega
              have hmn : min (8 * (7 - r)) 64 = 8 * (7 - r) := by omega
              have hby : IntKind.u8.wrap ((8 : Int) * (n : Int) / 2 ^ (8 * (7 - r))) = b8 (BitVec.ofNat 8 (8 * n / 2 ^ (8 * (7 - r)))) := by
                rw [← wrap_u8_byte]; simp
              obtain ⟨x, hx⟩ : ∃ x, BitVec.ofNat 8 (8 * n / 2 ^ (8 * (7 - r))) = x := ⟨_, rfl⟩
              rw [hx] at hby
              have HX := hid hx
              clear hx
              go_wp2_with (at_builtin; refine wpList_append_own _ rfl (.tmp 79) (.tmp 85) 23 rfl wA.heap.size 5 i8 (.int .u8 0) 1 1 Tryd.underlying23 hi8 hz8 hs8 hb8 rfl (by decide) _ _ _ rfl (HO.out.alloc _) ⟨wr.heap.size, 0, none⟩ 1 1 [V x] rfl rfl (cells_new _ _ _) (by simp [V, Value.oneCell']) (by unfold maxLen; omega) (by omega) (by simp; omega) ?_; intro v5 w5 hown5 hg5 _; have HO5 := hid hown5; have HB5 := hid (below_app HB.out hszr HO.out _ hg5); clear hown5 hg5)
              go_roundw
              case rel =>
                refine ⟨r + 1, by omega, by congr 1; omega, ?_, HB5.out⟩
                have hp := padTo_size l (zeros n) r hlt
                rw [HLL.out, HX.out] at hp
                rw [hp, List.map_append]
                exact HO5.out
              case measure => simp [intOf]; omega
            · obtain rfl : r = 8 := by omega
              obtain ⟨wB, hB⟩ : ∃ wB, wB = wr := ⟨_, rfl⟩
              subst hB
              have hpa := padTo_all l
              rw [HLL.out] at hpa
              rw [hpa] at HO
              obtain ⟨om2, capm2, rfl, hcm2, hsm2⟩ := ownsRow_shape HO.out
              obtain ⟨gm, rfl, hgm, hglm, hcellm⟩ := hsm2 (by omega)
              have HM : Hid (∀ j, j < q + 8 → wB.cell? ⟨gm, j, none⟩ = some (.int .u8 (b8 ((padded l).getD j 0)))) := hid (fun j hj => by
                have hpl := padded_length l
                have hl0 : (padded l).length = q + 8 := by
                  have h := HO.out.1; simpa using h
                rw [(hcellm j hj).1, List.getElem?_map, getD_some (padded l) j 0 (by omega)]; rfl)
              have hblk : q + 8 = 64 * ((n + 72) / 64) := by have h1 := HQ.out; unfold zeros at h1; omega
              have HBLK := hid hblk
              clear hcellm hsm2 hpa hblk
              have hbAB := HB.out
              have hszB := hbAB.size
              have HKC : Hid (∀ t, t < 64 → wB.cell? ⟨gk, t, none⟩ = some (.int .u32 (u (kTab.getD t 0)))) := hid (fun t ht => by
                obtain ⟨_, _, e1, _, hx⟩ := ownsRow_shape HK.out
                obtain ⟨g', e2, _, _, hc⟩ := hx (by omega)
                have e3 : g' = gk := by cases e1; cases e2; rfl
                subst e3
                rw [hbAB.cell hglk, (hc t ht).1, List.getElem?_map, getD_some kTab t 0 (by show t < 64; exact ht)]; rfl)
              have HHC : Hid (∀ i, i < 8 → wB.cell? ⟨gh, i, none⟩ = some (.int .u32 (u (hTab.list.getD i 0))) ∧ wB.frozen? ⟨gh, i, none⟩ = false) := hid (fun i hi => by
                obtain ⟨_, _, e1, _, hx⟩ := ownsRow_shape HH.out
                obtain ⟨g', e2, _, _, hc⟩ := hx (by omega)
                have e3 : g' = gh := by cases e1; cases e2; rfl
                subst e3
                refine ⟨?_, (hbAB.frozen hglh).trans (hc i hi).2⟩
                rw [hbAB.cell hglh, (hc i hi).1, List.getElem?_map, getD_some hTab.list i 0 (by show i < 8; exact hi)]; rfl)
              have HBELB := hid (HBEL.out.trans (hbAB.mono (by have := HBEL.out.size; omega)))
              obtain ⟨nb, hnb⟩ : ∃ nb, (n + 72) / 64 = nb := ⟨_, rfl⟩
              have hq8 : q + 8 = 64 * nb := by rw [← hnb]; exact HBLK.out
              have HNB := hid hnb
              have HQ8 := hid hq8
              have hAw : w.heap.size ≤ wA.heap.size := HBEL.out.size
              have hmi8 : IntKind.i64.wrap ((q : Int) + 8) = (q : Int) + 8 := by simp [IntKind.wrap, IntKind.bits, IntKind.signed]; split <;> omega
              obtain ⟨M, hM⟩ : ∃ M, q + 8 = M := ⟨_, rfl⟩
              rw [hM] at hq8 HM hcm2 HQ8 ⊢
              have hM48 : M < 140737488353000 := by omega
              clear HO HB HK HH hnb hbAB HBLK HQ hM hmi8 hq48 hq48'
              go_wp2_with fail
              have hmh : gm ≠ gh := by omega
              have hgkB : gk < wB.heap.size := by omega
              have hghB : gh < wB.heap.size := by omega
              refine main_block _ _ _ _ _ _ _ _ _ _ _ _ _ _ _ _ _ _ _ _ _ _ _ _ _ _ _ _ _ _ _ _ _ _ _ _ _ _ _ _ _ _ _ _ _ _ _ _ _ _ _ _ _ _ _ _ _ _ _ _ _ _ _ _ _ _ _ _ _ _ _ _ _ _ _ _ _ _ _ _ _ _ _ _ _ _ _ _ _ _ _ _ _ _ _ _ _ _ _ _ _ _ _ _ _ _ _ _ _ _ _ _ _ _ _ _ _ _ _ _ _ _ _ _ _ _ _ _ _ _ _ _ _ _ _ _ _ _ _ _ _ _ _ _ _ _ _ _ _ _ _ _ _ _ _ _ _ _ _ _ _ _ _ _ _ _ _ _ _ _ _ _ _ _ _ _ _ _ _ _ _ _ _ _ _ _ _ _ _ _ _ _ _ _ _ _ _ _ _ _ _ _ _ _ _ _ _ _ _ _ _ _ _ _ _ _ _ _ _ _ _ _ _ _ _ _ _ _ _ _ _ _ _ _ _ _ _ _ _ _ _ _ _ _ _ _ _ _ _ _ _ _ _ _ _ _ _ _ _ _ _ _ _ _ _ _ _ _ _ _ _ _ _ _ _ _ _ _ _ _ _ _ _ _ _ _ _ _ _ _ _ _ _ _ _ _ _ _ gk capk gh caph gm M capm2 nb (padded l) hTab wB hgne hmh hgkB hghB hglm hq8 hM48 hcm2 HM HKC HHC _ (hid ?_)
              intro u11 u12 u13 u14 u15 u16 u17 u18 u19 u20 u21 u22 u23 u24 u25 u26 u27 u28 u29 u30 u31 u32 u33 u87 u88 u89 u90 u91 u92 u93 u94 u95 u96 u97 u98 u99 u100 u101 u102 u103 u104 u105 u106 u107 u108 u109 u110 u111 u112 u113 u114 u115 u116 u117 u118 u119 u120 u121 u122 u123 u124 u125 u126 u127 u128 u129 u130 u131 u132 u133 u134 u135 u136 u137 u138 u139 u140 u141 u142 u143 u144 u145 u146 u147 u148 u149 u150 u151 u152 u153 u154 u155 u156 u157 u158 u159 u160 u161 u162 u163 u164 u165 u166 u167 u168 u169 u170 u171 u172 u173 u174 u175 u176 u177 u178 u179 u180 u181 u182 u183 u184 u185 u186 u187 u188 u189 u190 u191 u192 u193 u194 u195 u196 u197 u198 u199 u200 u201 u202 u203 u204 u205 u206 u207 u208 u209 u210 u211 u212 u213 u214 u215 u216 u217 u218 u219 u220 u221 u222 u223 u224 u225 u226 u227 u228 u229 u230 u231 u232 u233 u234 u235 u236 u237 u238 u239 u240 u241 u242 u243 u244 u245 u246 u247 u248 u249 u250 u251 u252 u253 u254 u255 u256 u257 u258 u259 u260 u261 u262 u263 u264 u265 u266 u267 u268 u269 u270 u271 u272 u273 u274 u275 u276 u277 u278 u279 u280 u281 wC h8C hgC
              have HC8 := hid h8C
              have hszC := hgC.size
              have HBC := hid (HBELB.out.grown hgC (by omega) (fun k hk => by cases hk; omega))
              clear h8C hgC HM HKC HHC HBELB
              go_wp2_with fail
              refine out_block _ _ _ _ _ _ _ _ _ _ _ _ _ _ _ _ _ _ _ _ _ _ _ _ _ _ _ _ _ _ _ _ _ _ _ _ _ _ _ _ _ _ _ _ _ _ _ _ _ _ _ _ _ _ _ _ _ _ _ _ _ _ _ _ _ _ _ _ _ _ _ _ _ _ _ _ _ _ _ _ _ _ _ _ _ _ _ _ _ _ _ _ _ _ _ _ _ _ _ _ _ _ _ _ _ _ _ _ _ _ _ _ _ _ _ _ _ _ _ _ _ _ _ _ _ _ _ _ _ _ _ _ _ _ _ _ _ _ _ _ _ _ _ _ _ _ _ _ _ _ _ _ _ _ _ _ _ _ _ _ _ _ _ _ _ _ _ _ _ _ _ _ _ _ _ _ _ _ _ _ _ _ _ _ _ _ _ _ _ _ _ _ _ _ _ _ _ _ _ _ _ _ _ _ _ _ _ _ _ _ _ _ _ _ _ _ _ _ _ _ _ _ _ _ _ _ _ _ _ _ _ _ _ _ _ _ _ _ _ _ _ _ _ _ _ _ _ _ _ _ _ _ _ _ _ _ _ _ _ _ _ _ _ _ _ _ _ _ _ _ _ _ _ _ _ _ _ _ _ _ _ _ _ _ _ _ _ _ _ _ _ _ _ _ _ _ _ _ gh caph (mixAll nb hTab (padded l)) wC (by omega) (hid fun i hi => (HC8.out i hi).1) _ (hid ?_)
              intro u36z u37z u284z u285z u286z u287z u288z u289z u290z u291z u292z u293z u294z u295z u296z u297z u298z u299z u300z vz wz hownz hbz
              have HOZ := hid (ownsRow_mono hownz (show w.heap.size ≤ wC.heap.size by omega))
              have HBZ := hid (HBC.out.trans (hbz.mono (by omega)))
              clear hownz hbz HC8 HBC
              go_wp2_with fail
              go_ret
              refine ⟨_, rfl, ?_, HBZ.out⟩
              have hs : sha l = (mixAll nb hTab (padded l)).list.flatMap wordBytes := by
                unfold sha
                rw [HLL.out, HNB.out]
              rw [hs]
              exact HOZ.out
end Go.Proofs.YtjfhhlgblmjonaaDoor
