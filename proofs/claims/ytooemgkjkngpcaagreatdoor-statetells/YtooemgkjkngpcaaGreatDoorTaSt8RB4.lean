/-
  The document's Book: the map of marks, in whatever order.
-/
import Derived.Test.YtooemgkjkngpcaaGreatDoorTaSt8RB1
import Derived.BigQuiet
import Derived.Deep.RegionHeld3
import Derived.Deep.RegionWith
namespace Go.Proofs.YtooemgkjkngpcaaGreatDoor
open Go.RowKit

set_option maxRecDepth 1000000 in
set_option maxHeartbeats 8000000 in
theorem bkMark_block {s0 s1 s2 s3 s4 s6 s7 s8 s9 s11 s12 s13 s14 s15 s16 s17 s18 s19 s20 s21 s22 s23 s24 s25 s26 s27 s28 s29 s30 s31 s32 s33 s34 s35 s36 s37 s38 s39 s40 s41 s42 s43 s44 s45 s46 s47 s48 s49 s50 s51 s52 s53 s54 s55 s56 s57 s58 s59 s60 s61 s62 s63 s64 s65 s66 s67 s68 s69 s70 s71 s72 s73 s74 s75 s76 s77 s81 s82 s83 s84 s85 s86 s87 s88 s89 s90 s91 s92 s93 s94 s95 s96 s97 : Value} (L0 : List Dg) (sv : Value) (kind : ByteArray) (l : List Mk) (oa : Option Addr) (ca N : Nat) (w : World) (hN : N ≤ w.heap.size) (hv : Hid (Many MkR 3 w N (.slice oa l.length ca) l)) (hl : l.length ≤ 50) (hL0 : L0.length ≤ 200) (hkl : kind.size ≤ 100) (hA0 : Hid (Acc w sv (setAll L0 []))) (hC : Hid (∀ c ∈ l, wrongMk c = 0)) (hE : Hid (∀ d ∈ l.map (entMk (lets kind)), DgOk d)) (Q : Exit → Act → World → Prop)
    (hGo : Hid (∀ (u5 u13 u80 u81 u82 u83 u84 u85 u86 u87 u88 u89 u90 u91 u92 u93 u94 u95 u96 : Value) (w' : World), Below w.heap.size w w' → Acc w' u5 (setAll (L0 ++ l.map (entMk (lets kind))) []) → Q .normal ⟨#[s0, s1, s2, s3, s4, u5, s6, s7, s8, s9, .string kind, s11, s12, u13, s14, s15, s16, s17, s18, s19, s20, s21, s22, s23, s24, s25, s26, s27, s28, s29, s30, s31, s32, s33, s34, s35, s36, s37, s38, s39, s40, s41, s42, s43, s44, s45, s46, s47, s48, s49, s50, s51, s52, s53, s54, s55, s56, s57, s58, s59, s60, s61, s62, s63, s64, s65, s66, s67, s68, s69, s70, s71, s72, s73, s74, s75, s76, s77, .slice oa l.length ca, .int .i64 (l.length : Int), u80, u81, u82, u83, u84, u85, u86, u87, u88, u89, u90, u91, u92, u93, u94, u95, u96, s97], []⟩ w')) :
    Code.wp Tryz.prog ((Tryz.f10.body.bind (inBlock 6)).getD .skip) (Exit.inBlock 6 Q) ⟨#[s0, s1, s2, s3, s4, sv, s6, s7, s8, s9, .string kind, s11, s12, s13, s14, s15, s16, s17, s18, s19, s20, s21, s22, s23, s24, s25, s26, s27, s28, s29, s30, s31, s32, s33, s34, s35, s36, s37, s38, s39, s40, s41, s42, s43, s44, s45, s46, s47, s48, s49, s50, s51, s52, s53, s54, s55, s56, s57, s58, s59, s60, s61, s62, s63, s64, s65, s66, s67, s68, s69, s70, s71, s72, s73, s74, s75, s76, s77, .slice oa l.length ca, .int .i64 (l.length : Int), .int .i64 0, s81, s82, s83, s84, s85, s86, s87, s88, s89, s90, s91, s92, s93, s94, s95, s96, s97], []⟩ w := by
  conv => arg 2; whnf
  conv => arg 4; dsimp only
  generalize hn : l.length = n at *
  have HN := hid hn
  clear hn
  go_loopw [5, 80] (fun v i wr => ∃ k : Nat, k ≤ n ∧ i = .int .i64 (k : Int) ∧ Hid (Below w.heap.size w wr ∧ Acc wr v (setAll (L0 ++ (l.take k).map (entMk (lets kind))) []))) (fun _ i _ => n - (intOf i).toNat)
  case atStart => exact ⟨0, by omega, rfl, hid ⟨Below.refl _ _, by simpa using hA0.out⟩⟩
  case round =>
    obtain ⟨k, hk, rfl, HT⟩ := hrel
    have HBW := hid HT.out.1
    have HAC := hid HT.out.2
    clear HT
    have hszw := HBW.out.size
    by_cases hlt : k < n
    · obtain ⟨x, hx⟩ : ∃ x, l[k]? = some x := ⟨l[k]'(by rw [HN.out]; exact hlt), List.getElem?_eq_getElem _⟩
      have hlt' : (k : Int) < (n : Int) := by omega
      obtain ⟨b, o, rfl, hcells⟩ := hv.out.spot (by omega)
      obtain ⟨hbN, r, hr, hc⟩ := hcells k x hx
      obtain ⟨dv, rfl, hdg⟩ := hr
      obtain ⟨od, cd, rfl, -⟩ := hdg.shape
      have hbl : b < w.heap.size := by omega
      have f0 := (HBW.out.cell (p := ⟨b, o + k * 3 + 0, none⟩) hbl).trans (hc 0 _ rfl)
      have f1 := (HBW.out.cell (p := ⟨b, o + k * 3 + 1, none⟩) hbl).trans (hc 1 _ rfl)
      have f2 := (HBW.out.cell (p := ⟨b, o + k * 3 + 2, none⟩) hbl).trans (hc 2 _ rfl)
      simp only [Nat.add_zero] at f0
      obtain ⟨w2, hw2⟩ : ∃ w2, wr.alloc (.cells #[.int .i64 x.chan, .int .i64 x.seq, .slice od x.dig.length cd] 79) = w2 := ⟨_, rfl⟩
      have hbr2 : Below wr.heap.size wr w2 := by rw [← hw2]; exact (Below.refl _ _).alloc (Nat.le_refl _) _
      have HB2 := hid (HBW.out.trans (hbr2.mono hszw))
      have HR2 := hid (show Row w2 wr.heap.size 79 [.int .i64 x.chan, .int .i64 x.seq, .slice od x.dig.length cd] by rw [← hw2]; exact Row.new _ _ _)
      have HA2 := hid (HAC.out.below hbr2)
      have HW2 := hid hw2
      have HDG := hid ((hdg.below (HB2.out.mono hN)).mono (Nat.le_trans hN HB2.out.size))
      have HNX := hid (show setAll (L0 ++ (l.take (k + 1)).map (entMk (lets kind))) [] = setP ⟨keyL (lets kind) [x.chan.toNat, x.seq.toNat], x.dig⟩ (setAll (L0 ++ (l.take k).map (entMk (lets kind))) []) by
        rw [take_next _ k _ hx, List.map_append, ← List.append_assoc, List.map_cons, List.map_nil, setAll_one]; rfl)
      have hlen : (setAll (L0 ++ (l.take k).map (entMk (lets kind))) []).length ≤ 1000 := by
        have := setAll_len (L0 ++ (l.take k).map (entMk (lets kind))) []
        rw [List.length_append, List.length_map, List.length_take, List.length_nil] at this
        omega
      have hfit : (keyL (lets kind) [x.chan.toNat, x.seq.toNat]).length ≤ 140737488351232 ∧ x.dig.length ≤ 140737488351232 := by
        have := hE.out _ (List.mem_map_of_mem (f := entMk (lets kind)) (List.mem_of_getElem? hx))
        have h1 := this.1
        have h2 := this.2.1
        simp only [entMk] at h1 h2
        omega
      have HC := hid (hC.out x (List.mem_of_getElem? hx))
      clear hbr2 hw2 hcells hc hx hdg
      go_upto_region 22 with fail
      rw [HW2.out]
      refine bkMarkRegion _ _ kind x od cd HA2 hlen HR2 HC HDG hkl hfit _ (hid ?_)
      intro σ kv vv v3 w3 hA3 hb3
      have HB3 := hid (HB2.out.trans (hb3.mono HB2.out.size))
      have HA3 := hid hA3
      clear hA3 hb3 hlen hfit
      go_wp2
      go_roundw
      case rel => exact ⟨k + 1, by omega, by go_num, hid ⟨HB3.out, by rw [HNX.out]; exact HA3.out⟩⟩
      case measure => simp [intOf]; omega
    · have hge : decide ((k : Int) < (n : Int)) = false := by simp; omega
      have HE := hid (show setAll (L0 ++ (l.take k).map (entMk (lets kind))) [] = setAll (L0 ++ l.map (entMk (lets kind))) [] by rw [List.take_of_length_le (by first | (rw [HN.out]; omega) | (rw [List.length_zipIdx, HN.out]; omega))])
      go_wp2
      apply hGo.out
      · exact HBW.out
      · rw [← HE.out]; exact HAC.out
end Go.Proofs.YtooemgkjkngpcaaGreatDoor
namespace Go.Proofs.YtooemgkjkngpcaaGreatDoor
open Go.RowKit

def strikeL (left : Lit → Bool) (kl : Lit) : Lit → Bool := fun z => left z && !z.sameKey kl
theorem strike_self {left : Lit → Bool} {kl : Lit} (h : WideAt.IsKeyLit kl) : strikeL left kl kl = false := by
  unfold strikeL
  rw [WideAt.sameKey_self h]
  simp
theorem strike_other {left : Lit → Bool} {kl z : Lit} (h : z ≠ kl) : strikeL left kl z = left z := by
  unfold strikeL
  have : z.sameKey kl = false := by
    cases e : z.sameKey kl
    · rfl
    · exact absurd (WideAt.sameKey_eq e) h
  rw [this]
  simp
theorem come_S (s : St) {left : Lit → Bool} (h : left kS = true) : (comeL s left ++ s.sent.map (entMk kwSent)).Perm (comeL s (strikeL left kS)) := by
  unfold comeL
  rw [strike_self isS, strike_other (Ne.symm neSG), strike_other (Ne.symm neSA), if_pos h, if_neg (show ¬ (false = true) by decide), List.nil_append]
  exact List.perm_append_comm
theorem come_G (s : St) {left : Lit → Bool} (h : left kG = true) : (comeL s left ++ s.got.map (entMk kwGot)).Perm (comeL s (strikeL left kG)) := by
  unfold comeL
  rw [strike_self isG, strike_other neSG, strike_other (Ne.symm neGA), if_pos h, if_neg (show ¬ (false = true) by decide), List.nil_append, List.append_assoc]
  exact List.Perm.append_left _ List.perm_append_comm
theorem come_A (s : St) {left : Lit → Bool} (h : left kA = true) : (comeL s left ++ s.acks.map (entMk kwAck)).Perm (comeL s (strikeL left kA)) := by
  unfold comeL
  rw [strike_self isA, strike_other neSA, strike_other neGA, if_pos h, if_neg (show ¬ (false = true) by decide), List.append_nil, List.append_assoc]
theorem come_none (s : St) {left : Lit → Bool} (h : ∀ kl, left kl = false) : comeL s left = s.sent.map (entMk kwSent) ++ (s.got.map (entMk kwGot) ++ s.acks.map (entMk kwAck)) := by
  unfold comeL
  rw [h, h, h, if_neg (by simp), if_neg (by simp), if_neg (by simp)]
theorem come_all (s : St) {left : Lit → Bool} (h1 : left kS = true) (h2 : left kG = true) (h3 : left kA = true) : comeL s left = [] := by
  unfold comeL
  rw [h1, h2, h3]
  simp
theorem come_len (s : St) (left : Lit → Bool) : (comeL s left).length ≤ s.sent.length + s.got.length + s.acks.length := by
  unfold comeL
  simp only [List.length_append]
  split <;> split <;> split <;> simp <;> omega
theorem strike_three {left : Lit → Bool} {kl : Lit} (h : ∀ z, left z = true → z = kS ∨ z = kG ∨ z = kA) : ∀ z, strikeL left kl z = true → z = kS ∨ z = kG ∨ z = kA := fun z hz => h z (by
  unfold strikeL at hz
  simp at hz
  exact hz.1)
theorem below_grownS {w w' : World} (h : Below w.heap.size w w') (r : Option Nat) : w.grownBy w' r := ⟨h.os, h.tape, h.output, h.size, fun k hk _ => h.block k hk⟩
theorem key_str {key : Value} {kl : Lit} (h : keyOf Tryz.prog 9 key = some kl) : ∃ x, key = .string x := by
  cases key <;> simp [keyOf, Tryz.underlying9, mapKey] at h
  exact ⟨_, rfl⟩
set_option maxRecDepth 1000000 in
set_option maxHeartbeats 8000000 in
theorem bkMap_block {s0 s1 s2 s3 s4 s6 s7 s8 s9 s10 s11 s12 s13 s14 s15 s16 s17 s18 s19 s20 s21 s22 s23 s24 s25 s26 s27 s28 s29 s30 s31 s32 s33 s34 s35 s36 s37 s38 s39 s40 s41 s42 s43 s44 s45 s46 s47 s48 s49 s50 s51 s52 s53 s54 s55 s56 s57 s58 s59 s60 s61 s62 s63 s64 s65 s66 s67 s68 s69 s70 s71 s73 s74 s75 s76 s77 s78 s79 s80 s81 s82 s83 s84 s85 s86 s87 s88 s89 s90 s91 s92 s93 s94 s95 s96 s97 : Value} (s : St) (L0 : List Dg) (sv : Value) (o4 o5 o6 : Option Addr) (c4 c5 c6 b r n0 N base : Nat) (w : World) (hN : N ≤ base) (hbz : base ≤ w.heap.size) (hbr : base ≤ r) (hS : Hid (Right s)) (hL0 : Hid (L0 = s.conns.zipIdx.map entCn ++ s.chans.zipIdx.flatMap entCh)) (hLL : L0.length ≤ 24) (hrg : Hid (w.ranges Tryz.prog 9 heldR b r n0 (threeD (.slice o4 s.sent.length c4) (.slice o5 s.got.length c5) (.slice o6 s.acks.length c6)) (Maps.has (threeD (.slice o4 s.sent.length c4) (.slice o5 s.got.length c5) (.slice o6 s.acks.length c6))) (Maps.size (threeD (.slice o4 s.sent.length c4) (.slice o5 s.got.length c5) (.slice o6 s.acks.length c6))))) (hA0 : Hid (Acc w sv (setAll L0 []))) (HM4 : Hid (Many MkR 3 w N (.slice o4 s.sent.length c4) s.sent)) (HM5 : Hid (Many MkR 3 w N (.slice o5 s.got.length c5) s.got)) (HM6 : Hid (Many MkR 3 w N (.slice o6 s.acks.length c6) s.acks)) (HC4 : Hid (∀ c ∈ s.sent, wrongMk c = 0)) (HC5 : Hid (∀ c ∈ s.got, wrongMk c = 0)) (HC6 : Hid (∀ c ∈ s.acks, wrongMk c = 0)) (HE4 : Hid (∀ d ∈ s.sent.map (entMk (lets wS)), DgOk d)) (HE5 : Hid (∀ d ∈ s.got.map (entMk (lets wG)), DgOk d)) (HE6 : Hid (∀ d ∈ s.acks.map (entMk (lets wA)), DgOk d)) (Q : Exit → Act → World → Prop)
    (hGo : Hid (∀ (u5 u10 u11 u13 u73 u74 u75 u76 u77 u78 u79 u80 u81 u82 u83 u84 u85 u86 u87 u88 u89 u90 u91 u92 u93 u94 u95 u96 : Value) (w' : World), Below base w w' → Acc w' u5 (bookS s) → Q .normal ⟨#[s0, s1, s2, s3, s4, u5, s6, s7, s8, s9, u10, u11, s12, u13, s14, s15, s16, s17, s18, s19, s20, s21, s22, s23, s24, s25, s26, s27, s28, s29, s30, s31, s32, s33, s34, s35, s36, s37, s38, s39, s40, s41, s42, s43, s44, s45, s46, s47, s48, s49, s50, s51, s52, s53, s54, s55, s56, s57, s58, s59, s60, s61, s62, s63, s64, s65, s66, s67, s68, s69, s70, s71, .pointer (some ⟨r, 0, none⟩), u73, u74, u75, u76, u77, u78, u79, u80, u81, u82, u83, u84, u85, u86, u87, u88, u89, u90, u91, u92, u93, u94, u95, u96, s97], []⟩ w')) :
    Code.wp Tryz.prog ((Tryz.f10.body.bind (inBlock 4)).getD .skip) (Exit.inBlock 4 Q) ⟨#[s0, s1, s2, s3, s4, sv, s6, s7, s8, s9, s10, s11, s12, s13, s14, s15, s16, s17, s18, s19, s20, s21, s22, s23, s24, s25, s26, s27, s28, s29, s30, s31, s32, s33, s34, s35, s36, s37, s38, s39, s40, s41, s42, s43, s44, s45, s46, s47, s48, s49, s50, s51, s52, s53, s54, s55, s56, s57, s58, s59, s60, s61, s62, s63, s64, s65, s66, s67, s68, s69, s70, s71, .pointer (some ⟨r, 0, none⟩), s73, s74, s75, s76, s77, s78, s79, s80, s81, s82, s83, s84, s85, s86, s87, s88, s89, s90, s91, s92, s93, s94, s95, s96, s97], []⟩ w := by
  conv => arg 2; whnf
  conv => arg 4; dsimp only
  have hmany := hS.out.many
  go_loopw [5] (fun v wr => ∃ (left : Lit → Bool) (cnt : Nat) (L : List Dg), Hid (wr.ranges Tryz.prog 9 heldR b r n0 (threeD (.slice o4 s.sent.length c4) (.slice o5 s.got.length c5) (.slice o6 s.acks.length c6)) left cnt ∧ Below base w wr ∧ L.Perm (L0 ++ comeL s left) ∧ Acc wr v (setAll L []) ∧ ∀ z, left z = true → z = kS ∨ z = kG ∨ z = kA)) (fun _ wr => wr.rangeLeft b r)
  case atStart => exact ⟨_, _, L0, hid ⟨hrg.out, Below.refl _ _, by rw [come_all s (three_S _ _ _) (three_G _ _ _) (three_A _ _ _), List.append_nil], hA0.out, fun z hz => three_has hz⟩⟩
  case round =>
    obtain ⟨left, cnt, L, HT⟩ := hrel
    have HRG := hid HT.out.1
    have HBW := hid HT.out.2.1
    have HPM := hid HT.out.2.2.1
    have HAC := hid HT.out.2.2.2.1
    have H3 := hid HT.out.2.2.2.2
    clear HT
    have hL2 : L.length ≤ 200 := by
      have h1 := HPM.out.length_eq
      have h2 := come_len s left
      rw [List.length_append] at h1
      omega
    go_wp2_with (first | (at_next; refine wpList_next_ranges _ rfl _ rfl 9 strLaw heldR Value.string (fun c : Value => c) (fun key kl hk => key_str hk) (fun v y _ => ⟨v, rfl⟩) b r n0 _ _ _ rfl HRG.out ?_ ?_) | go_in)
    · intro _ hl0
      have HPE := hid (show L.Perm (L0 ++ (s.sent.map (entMk kwSent) ++ (s.got.map (entMk kwGot) ++ s.acks.map (entMk kwAck)))) by rw [← come_none s hl0]; exact HPM.out)
      clear hl0
      go_wp2
      apply hGo.out
      · exact HBW.out
      · rw [← setAll_book hS.out (L := L) (by have h := HPE.out; rw [hL0.out, List.append_assoc] at h; exact h)]
        exact HAC.out
    · intro x c kl y y2 w1 cnt1 hkey hlk hv hat hrg1 hlt hg1 hs1 hen
      obtain ⟨xi, since, seen, c0, hri⟩ := ranges_iter HRG.out
      have HB1 := hid (HBW.out.grown hg1 (Nat.le_trans hbz HBW.out.size) (fun k hk => by obtain rfl := Option.some.inj hk; exact hbr))
      have HA1 := hid (HAC.out.iter hri hg1)
      have h3 := H3.out kl hlk
      clear hri hg1 hs1
      rcases h3 with hkl | hkl | hkl
      · subst hkl
        obtain rfl : x = wS := by have := key_inv hkey; injection this
        obtain rfl : c = .slice o4 s.sent.length c4 := by
          have h1 := hat (.held c)
          rw [at_S] at h1
          have h2 := Option.some.inj hv
          injection h2 with h2 h3
          rw [← h2] at h1
          injection h1 with h1
          exact h1.symm
        have HPN := hid (show (L ++ s.sent.map (entMk kwSent)).Perm (L0 ++ comeL s (strikeL left kS)) from ((HPM.out.append_right _).trans (by rw [List.append_assoc])).trans (List.Perm.append_left _ (come_S s hlk)))
        clear hat hv hkey hlk
        go_wp2_with fail
        refine bkMark_block L _ wS s.sent o4 c4 N w1 (Nat.le_trans hN (Nat.le_trans hbz HB1.out.size)) (hid ((HM4.out).below MkR.stays (HB1.out.mono hN))) (by omega) hL2 (by decide) HA1 HC4 HE4 _ (hid ?_)
        intro u5 u13 u80 u81 u82 u83 u84 u85 u86 u87 u88 u89 u90 u91 u92 u93 u94 u95 u96 w2 hb2 hA2
        have HB2 := hid (HB1.out.trans (hb2.mono (Nat.le_trans hbz HB1.out.size)))
        have HA2 := hid hA2
        have HR2 := hid (hrg1.kept (below_grownS hb2 none) (by simp) (by simp))
        clear hb2 hA2
        go_wp2
        go_roundw
        case rel => exact ⟨_, cnt1, _, hid ⟨HR2.out, HB2.out, HPN.out, HA2.out, strike_three H3.out⟩⟩
        case measure => rw [HR2.out.left_eq, HRG.out.left_eq]; exact hlt
      · subst hkl
        obtain rfl : x = wG := by have := key_inv hkey; injection this
        obtain rfl : c = .slice o5 s.got.length c5 := by
          have h1 := hat (.held c)
          rw [at_G] at h1
          have h2 := Option.some.inj hv
          injection h2 with h2 h3
          rw [← h2] at h1
          injection h1 with h1
          exact h1.symm
        have HPN := hid (show (L ++ s.got.map (entMk kwGot)).Perm (L0 ++ comeL s (strikeL left kG)) from ((HPM.out.append_right _).trans (by rw [List.append_assoc])).trans (List.Perm.append_left _ (come_G s hlk)))
        clear hat hv hkey hlk
        go_wp2_with fail
        refine bkMark_block L _ wG s.got o5 c5 N w1 (Nat.le_trans hN (Nat.le_trans hbz HB1.out.size)) (hid ((HM5.out).below MkR.stays (HB1.out.mono hN))) (by omega) hL2 (by decide) HA1 HC5 HE5 _ (hid ?_)
        intro u5 u13 u80 u81 u82 u83 u84 u85 u86 u87 u88 u89 u90 u91 u92 u93 u94 u95 u96 w2 hb2 hA2
        have HB2 := hid (HB1.out.trans (hb2.mono (Nat.le_trans hbz HB1.out.size)))
        have HA2 := hid hA2
        have HR2 := hid (hrg1.kept (below_grownS hb2 none) (by simp) (by simp))
        clear hb2 hA2
        go_wp2
        go_roundw
        case rel => exact ⟨_, cnt1, _, hid ⟨HR2.out, HB2.out, HPN.out, HA2.out, strike_three H3.out⟩⟩
        case measure => rw [HR2.out.left_eq, HRG.out.left_eq]; exact hlt
      · subst hkl
        obtain rfl : x = wA := by have := key_inv hkey; injection this
        obtain rfl : c = .slice o6 s.acks.length c6 := by
          have h1 := hat (.held c)
          rw [at_A] at h1
          have h2 := Option.some.inj hv
          injection h2 with h2 h3
          rw [← h2] at h1
          injection h1 with h1
          exact h1.symm
        have HPN := hid (show (L ++ s.acks.map (entMk kwAck)).Perm (L0 ++ comeL s (strikeL left kA)) from ((HPM.out.append_right _).trans (by rw [List.append_assoc])).trans (List.Perm.append_left _ (come_A s hlk)))
        clear hat hv hkey hlk
        go_wp2_with fail
        refine bkMark_block L _ wA s.acks o6 c6 N w1 (Nat.le_trans hN (Nat.le_trans hbz HB1.out.size)) (hid ((HM6.out).below MkR.stays (HB1.out.mono hN))) (by omega) hL2 (by decide) HA1 HC6 HE6 _ (hid ?_)
        intro u5 u13 u80 u81 u82 u83 u84 u85 u86 u87 u88 u89 u90 u91 u92 u93 u94 u95 u96 w2 hb2 hA2
        have HB2 := hid (HB1.out.trans (hb2.mono (Nat.le_trans hbz HB1.out.size)))
        have HA2 := hid hA2
        have HR2 := hid (hrg1.kept (below_grownS hb2 none) (by simp) (by simp))
        clear hb2 hA2
        go_wp2
        go_roundw
        case rel => exact ⟨_, cnt1, _, hid ⟨HR2.out, HB2.out, HPN.out, HA2.out, strike_three H3.out⟩⟩
        case measure => rw [HR2.out.left_eq, HRG.out.left_eq]; exact hlt
end Go.Proofs.YtooemgkjkngpcaaGreatDoor
