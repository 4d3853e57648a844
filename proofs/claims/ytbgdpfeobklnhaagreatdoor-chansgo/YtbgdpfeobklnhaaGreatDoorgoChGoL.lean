/-
  ChansGo: the loop over its steps.
-/
import Derived.Test.YtbgdpfeobklnhaaGreatDoorgoChFol
import Derived.Test.YtbgdpfeobklnhaaGreatDoorgoFrKit
import Derived.Test.YtbgdpfeobklnhaaGreatDoorgoCoAfter
import Derived.Test.YtbgdpfeobklnhaaGreatDoorgoRef1All
import Derived.Test.YtbgdpfeobklnhaaGreatDoorgoSt9RKit
namespace Go.Proofs.YtbgdpfeobklnhaaGreatDoor
open Go.RowKit

set_option maxRecDepth 1000000 in
set_option maxHeartbeats 8000000 in
theorem goSteps {sl0 sl1 sl2 sl3 sl4 sl6 sl7 sl8 sl9 sl10 sl12 sl13 sl14 sl15 sl16 sl17 sl18 sl19 sl20 sl21 sl22 sl23 sl24 sl25 sl26 sl27 sl28 sl32 sl33 sl34 sl35 sl36 sl37 sl38 sl39 sl40 sl41 sl42 sl43 sl44 sl45 sl46 sl47 sl48 sl49 sl50 sl51 sl52 sl53 sl54 sl55 sl56 sl57 sl58 sl59 sl60 sl61 sl62 sl63 sl64 sl65 sl66 sl67 sl68 sl69 sl70 sl71 sl72 sl73 sl74 sl75 sl76 sl77 sl78 sl79 sl80 sl81 sl82 sl83 sl84 sl85 sl86 sl87 sl88 sl89 sl90 sl91 sl92 sl93 sl94 sl95 sl96 sl97 sl98 sl99 sl100 sl101 sl102 sl103 sl104 sl105 sl106 sl107 sl108 sl109 sl110 sl111 sl112 sl113 sl114 sl115 sl116 sl117 sl118 sl119 sl120 sl121 sl122 sl123 sl124 sl125 : Value} {gf N : Nat} {gs : Nat} {w1 : World} (s : St) (i : Int) (fs : List Value) (HF : Hid (Row w1 gf 50 fs)) (hN : N ≤ w1.heap.size)
    (HC : Hid (∀ k : Nat, k < 6 → ∃ (fid : FuncId) (caps : Array Value) (n : Int) (t : St), fs[k]? = some (.func (.func fid) #[] caps) ∧ (n = 0 → FollowsC s i t) ∧ (∀ W : World, (callFunc fid caps).run Tryz.prog W = .ok (.enter fid caps) W) ∧ ∀ W, Below w1.heap.size w1 W → Calls Tryz.prog fid caps W fun e w' => Below W.heap.size W w' ∧ ∃ v', e = .returned (.tuple #[v', .int .i64 n]) ∧ HoldsS N W.heap.size w' v' t)) (Q : Exit → Act → World → Prop)
    (hGo : Hid (∀ (u13 u14 u15 u31 u32 u33 u34 u35 u36 u37 u38 u39 u40 u41 u42 u43 u44 u45 u46 v : Value) (l : List St) (w' : World), Below w1.heap.size w1 w' → After w' w1.heap.size v l → (∀ t ∈ l, FollowsC s i t) → l.length ≤ 6 → Q .normal ⟨#[sl0, sl1, sl2, sl3, sl4, .pointer (some ⟨gs, 0, none⟩), sl6, sl7, sl8, sl9, sl10, v, sl12, u13, u14, u15, sl16, sl17, sl18, sl19, sl20, sl21, sl22, sl23, sl24, sl25, sl26, sl27, sl28, .slice (some ⟨gf, 0, none⟩) 6 6, .int .i64 6, u31, u32, u33, u34, u35, u36, u37, u38, u39, u40, u41, u42, u43, u44, u45, u46, sl47, sl48, sl49, sl50, sl51, sl52, sl53, sl54, sl55, sl56, sl57, sl58, sl59, sl60, sl61, sl62, sl63, sl64, sl65, sl66, sl67, sl68, sl69, sl70, sl71, sl72, sl73, sl74, sl75, sl76, sl77, sl78, sl79, sl80, sl81, sl82, sl83, sl84, sl85, sl86, sl87, sl88, sl89, sl90, sl91, sl92, sl93, sl94, sl95, sl96, sl97, sl98, sl99, sl100, sl101, sl102, sl103, sl104, sl105, sl106, sl107, sl108, sl109, sl110, sl111, sl112, sl113, sl114, sl115, sl116, sl117, sl118, sl119, sl120, sl121, sl122, sl123, sl124, sl125], []⟩ w')) :
    Code.wp Tryz.prog ((Tryz.f4.body.bind (inBlock 0)).getD .skip) (Exit.inBlock 0 Q) ⟨#[sl0, sl1, sl2, sl3, sl4, .pointer (some ⟨gs, 0, none⟩), sl6, sl7, sl8, sl9, sl10, .slice none 0 0, sl12, sl13, sl14, sl15, sl16, sl17, sl18, sl19, sl20, sl21, sl22, sl23, sl24, sl25, sl26, sl27, sl28, .slice (some ⟨gf, 0, none⟩) 6 6, .int .i64 6, .int .i64 0, sl32, sl33, sl34, sl35, sl36, sl37, sl38, sl39, sl40, sl41, sl42, sl43, sl44, sl45, sl46, sl47, sl48, sl49, sl50, sl51, sl52, sl53, sl54, sl55, sl56, sl57, sl58, sl59, sl60, sl61, sl62, sl63, sl64, sl65, sl66, sl67, sl68, sl69, sl70, sl71, sl72, sl73, sl74, sl75, sl76, sl77, sl78, sl79, sl80, sl81, sl82, sl83, sl84, sl85, sl86, sl87, sl88, sl89, sl90, sl91, sl92, sl93, sl94, sl95, sl96, sl97, sl98, sl99, sl100, sl101, sl102, sl103, sl104, sl105, sl106, sl107, sl108, sl109, sl110, sl111, sl112, sl113, sl114, sl115, sl116, sl117, sl118, sl119, sl120, sl121, sl122, sl123, sl124, sl125], []⟩ w1 := by
  conv => arg 2; whnf
  conv => arg 4; dsimp only
  go_loopw [11, 31] (fun va j wr => ∃ k : Nat, k ≤ 6 ∧ j = .int .i64 (k : Int) ∧ Hid (Below w1.heap.size w1 wr) ∧ ∃ l, Hid (After wr w1.heap.size va l) ∧ Hid (∀ t ∈ l, FollowsC s i t) ∧ l.length ≤ k) (fun _ j _ => 6 - (intOf j).toNat)
  case atStart => exact ⟨0, by omega, rfl, hid (Below.refl _ _), [], hid (After.nil _ _), hid (fun t h => absurd h List.not_mem_nil), Nat.le_refl _⟩
  case round =>
    obtain ⟨k, hk, rfl, HBW, l, HAF, HFO, hl⟩ := hrel
    by_cases hlt : k < 6
    · obtain ⟨fid, caps, n, t, hfk, hfo, hcf, hcall⟩ := HC.out k hlt
      have hcw := hcf wr
      have hlt' : (k : Int) < 6 := by omega
      have kf := ((HF.out.below HBW.out HF.out.lt).cell k).trans hfk
      have HCK := hid hcall
      have HFK := hid hfo
      obtain ⟨oa, cap, rfl⟩ := HAF.out.shape
      clear hfk hcall hfo hcf
      go_wp2_with fail
      first | rw [hcw, Oper.upon_enter] | skip
      refine (HCK.out wr HBW.out).mono ?_
      rintro e w3 ⟨hb3, v', rfl, hva⟩
      obtain ⟨p0, p1, p2, p3, p4, p5, p6, p7, p8, p9, rfl, hon⟩ := hva.now.ten
      have HVA := hid hva
      have HON := hid hon
      have HB3 := hid (HBW.out.trans (hb3.mono HBW.out.size))
      have HA3 := hid (HAF.out.below hb3)
      have hsz3 := HBW.out.size
      have HS3 := hid hsz3
      clear hb3 hva hon kf hsz3 hcw
      go_upto_region 8 with (refine storeNew rfl rfl rfl rfl structState rfl HON.out ?_; intro w4 hr4 hb4)
      have HB4 := hid (HB3.out.trans (hb4.mono HB3.out.size))
      have HA4 := hid (HA3.out.below hb4)
      have HV4 := hid (HVA.out.below hb4)
      have HR4 := hid hr4
      by_cases hz : n = 0
      · have HFT := hid (HFK.out hz)
        subst hz
        obtain ⟨k0, k1, k2, k3, k4, k5, k6, k7, k8, k9⟩ := hr4.k10
        clear hb4 hr4
        go_wp2_with (at_builtin; refine Hid.out ?_)
        refine hid ?_
        refine boxL ?_
        intro w5 hr5 hb5
        have hown := (HA4.out.below hb5)
        have hgb := hown.own
        have hvv := HV4.out.below hb5
        refine wpList_more rfl _ _ rfl w1.heap.size _ l rfl hown _ _ t rfl hr5 ⟨rfl, by simpa using HON.out⟩ _ hvv (fun b hF e => ?_) (by omega) (Nat.le_trans (Nat.le_trans HB4.out.size (Nat.le_refl _)) hb5.size) ?_
        · have h1 := HAF.out.own b e
          have h2 := HS3.out
          rcases hF.1 with h | h <;> omega
        intro v5 w6 haf hb6 hg6
        have HB6 := hid (HB4.out.trans ((hb5.mono HB4.out.size).trans hb6))
        have HA6 := hid haf
        have HF6 := hid (show ∀ u ∈ l ++ [t], FollowsC s i u from fun u hu => by
          rcases List.mem_append.1 hu with h | h
          · exact HFO.out u h
          · rw [List.mem_singleton.1 h]; exact HFT.out)
        clear hb5 hr5 hown hgb hvv haf hb6 hg6 k0 k1 k2 k3 k4 k5 k6 k7 k8 k9
        go_wp2
        go_roundw
        case rel => exact ⟨k + 1, by omega, by go_num, HB6, l ++ [t], HA6, HF6, by simp; omega⟩
        case measure => simp [intOf]; omega
      · have e0 : (n == 0) = false := by simpa using hz
        clear hz hb4 hr4
        go_wp2
        go_roundw
        case rel => exact ⟨k + 1, by omega, by go_num, HB4, l, HA4, HFO, by omega⟩
        case measure => simp [intOf]; omega
    · have hge : decide ((k : Int) < 6) = false := by simp; omega
      go_wp2
      apply hGo.out
      · exact HBW.out
      · exact HAF.out
      · exact HFO.out
      · omega
end Go.Proofs.YtbgdpfeobklnhaaGreatDoor
