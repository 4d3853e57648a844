/-
  A transfer read from its bytes: package bank's Parse.
-/
import Derived.Test.YtbjlfhabnjpdmaaGreatDoorlaBkPack
namespace Go.Proofs.YtbjlfhabnjpdmaaGreatDoor
open Go.RowKit

theorem parse_unfold {b : List (BitVec 8)} {m : List Pc} (h : rdAll b = .ok m) : parseR b = parsePs m := by unfold parseR; rw [h]
theorem parse_bad {b : List (BitVec 8)} {c : Int} (h : rdAll b = .error c) : parseR b = .error c := by unfold parseR; rw [h]
theorem kinds4 {m : List Pc} (h : kindsB m [2, 1, 2, 2] = true) : ∃ p0 p1 p2 p3, m = [p0, p1, p2, p3] ∧ p0.k = 2 ∧ p1.k = 1 ∧ p2.k = 2 ∧ p3.k = 2 := by
  unfold kindsB at h
  rw [decide_eq_true_eq] at h
  rcases m with _ | ⟨p0, _ | ⟨p1, _ | ⟨p2, _ | ⟨p3, _ | ⟨p4, m⟩⟩⟩⟩⟩ <;> simp at h
  exact ⟨p0, p1, p2, p3, rfl, h⟩
theorem parse_form {m : List Pc} (h : kindsB m [2, 1, 2, 2] = false) : parsePs m = .error 2 := by
  unfold parsePs
  split
  · rename_i p0 p1 p2 p3
    split
    · rename_i hk
      unfold kindsB at h
      simp [hk] at h
    · rfl
  · rfl
theorem parse_four {p0 p1 p2 p3 : Pc} (h : p0.k = 2 ∧ p1.k = 1 ∧ p2.k = 2 ∧ p3.k = 2) : parsePs [p0, p1, p2, p3] = if (wordB (strB p0.b) && (wordB (strB p2.b) && wordB (strB p3.b))) = false then .error 4 else if p1.n = 0 then .error 3 else .ok ⟨strB p0.b, p1.n, strB p2.b, strB p3.b⟩ := if_pos h
def trV (t : Tr) : Value := .agg #[.string t.denom, .int .u64 (t.amount : Int), .string t.sender, .string t.reader]
theorem Row.f4 {w : World} {g : Nat} {t : TypeId} {a b c d : Value} (h : Row w g t [a, b, c, d]) : w.cell? ⟨g, 0, none⟩ = some a ∧ w.cell? ⟨g, 1, none⟩ = some b ∧ w.cell? ⟨g, 2, none⟩ = some c ∧ w.cell? ⟨g, 3, none⟩ = some d ∧ w.frozen? ⟨g, 0, none⟩ = false ∧ w.frozen? ⟨g, 1, none⟩ = false ∧ w.frozen? ⟨g, 2, none⟩ = false ∧ w.frozen? ⟨g, 3, none⟩ = false :=
  ⟨h.cell 0, h.cell 1, h.cell 2, h.cell 3, h.frozen 0, h.frozen 1, h.frozen 2, h.frozen 3⟩
/-- four cells written over an answer -/
theorem Fr.four {w w1 : World} {g : Nat} {t : TypeId} {a b c d : Value} {l : List Bx} (F : Fr w ((g, t, [a, b, c, d]) :: l) w1) (a' b' c' d' : Value) : Fr w ((g, t, [a', b', c', d']) :: l) ((((w1.setCell ⟨g, 0, none⟩ a').setCell ⟨g, 1, none⟩ b').setCell ⟨g, 2, none⟩ c').setCell ⟨g, 3, none⟩ d') :=
  (((F.set1 0 0 a' rfl).set1 0 1 b' rfl).set1 0 2 c' rfl).set1 0 3 d' rfl
def BoxT (base : Nat) (X : Value) (W : World) : Prop := ∃ k, X = .pointer (some ⟨k, 0, none⟩) ∧ base ≤ k ∧ Row W k 49 [.string ⟨#[]⟩, .int .u64 0, .string ⟨#[]⟩, .string ⟨#[]⟩]
theorem BoxT.stay (base : Nat) : Stay (BoxT base) := fun _ _ _ hb ⟨k, e, h1, h⟩ => ⟨k, e, h1, h.below hb h.lt⟩
theorem Fr.join {w w1 : World} {l : List Bx} {k : Nat} {t : TypeId} {cs : List Value} (F : Fr w l w1) (hr : Row w1 k t cs) (hlt : ∀ r ∈ l, r.1 < k) (hk : w.heap.size ≤ k) : Fr w (l ++ [(k, t, cs)]) w1 := by
  refine ⟨F.b, fun r h => ?_, fun r h => ?_, ?_⟩
  · rcases List.mem_append.1 h with h | h
    · exact F.rows r h
    · obtain rfl := List.mem_singleton.1 h
      exact hr
  · rcases List.mem_append.1 h with h | h
    · exact F.own r h
    · obtain rfl := List.mem_singleton.1 h
      exact hk
  · refine List.pairwise_append.2 ⟨F.apart, List.pairwise_singleton _ _, fun a ha b hb => ?_⟩
    obtain rfl := List.mem_singleton.1 hb
    exact Nat.ne_of_lt (hlt a ha)
theorem Fr.named4 {P : Program} {c : Code} {Q : Exit → Act → World → Prop} {a : Act} {w w2 : World} {l : List Bx} (F : Fr w l w2) (h : ∀ w3, Fr w l w3 → c.wp P Q a w3) : c.wp P Q a w2 := h _ F
set_option maxRecDepth 100000 in
set_option maxHeartbeats 4000000 in
theorem parse_any (b : List (BitVec 8)) (sv : Value) (N : Nat) (w : World) (hb : Bytes w N sv b) (hN : N ≤ w.heap.size) (hlen : b.length ≤ 140737488355328) :
    Calls Tryz.prog 173 #[sv] w fun e w' => e = .returned (.tuple #[trV (parseT b), .int .i64 (parseE b)]) ∧ Below w.heap.size w w' := by
  have HC := hid (fun W (h : Below w.heap.size w W) => read_any b sv N W (hb.below (h.mono hN)) (Nat.le_trans hN h.size) hlen)
  obtain ⟨oa, ca, rfl, -⟩ := hb.shape
  have HW := hid isWord_any
  have HE := hid (show parseE b = match parseR b with | .ok _ => 0 | .error c => c from rfl)
  have HT := hid (show parseT b = match parseR b with | .ok t => t | .error _ => Tr.zero from rfl)
  clear hb hlen
  generalize b.length = bl at *
  go_enter Tryz.func173, Tryz.ntmps173
  go_upto_region 1 with fail
  refine fbox1 ?_
  intro w0 F0 hs
  clear hs
  go_wp2_with fail
  refine (HC.out w0 F0.b).mono ?_
  rintro e w1 ⟨hb1, ⟨m, v, hm, rfl, hv⟩ | ⟨c, hc, rfl⟩⟩
  · have F1 := F0.go hb1
    have HPR := hid (parse_unfold hm)
    have HMK := hid ((wr_rd b m hm).2)
    obtain ⟨ov, cv, rfl, -⟩ := hv.shape
    have HV := hid hv
    clear hb1 F0 hm hv
    rw [HPR.out] at HE HT
    generalize hml : m.length = ml at *
    have HML := hid hml
    clear hml
    go_upto_region 4 with fail
    have HF1 := hid F1
    clear F1
    go_wp2_with fail
    refine boxC ?_
    intro w2 hr2 hb2
    have F2 := HF1.out.go hb2
    refine (areOf_any m [2, 1, 2, 2] _ _ _ 4 w2 hb2.size (HV.out.below hb2) hr2 rfl (by rw [HML.out]; have := HMK.out.1; omega)).mono ?_
    rintro e w3 ⟨rfl, hb3⟩
    have F3 := F2.go hb3
    have HV3 := hid ((HV.out.below hb2).below (hb3.mono hb2.size))
    have HSZ := hid (Nat.le_trans hb2.size hb3.size)
    clear hr2 hb2 hb3 F2 HF1
    by_cases hk : kindsB m [2, 1, 2, 2] = false
    · rw [hk]
      rw [parse_form hk] at HE HT
      obtain ⟨c0, c1, c2, c3, z0, z1, z2, z3⟩ := F3.r0.f4
      have HF := hid (F3.four (.string ⟨#[]⟩) (.int .u64 0) (.string ⟨#[]⟩) (.string ⟨#[]⟩))
      clear F3 hk
      go_wp2
      refine ret_ct Tryz.results173 rfl HF.out.r0 structTr rfl ⟨?_, HF.out.b⟩
      rw [HE.out, HT.out]
      rfl
    · have hk' : kindsB m [2, 1, 2, 2] = true := by simpa using hk
      rw [hk']
      obtain ⟨p0, p1, p2, p3, rfl, hks⟩ := kinds4 hk'
      rw [parse_four hks] at HE HT
      obtain rfl : ml = 4 := by rw [← HML.out]; rfl
      obtain ⟨bb, ff, rfl, hcc⟩ := HV3.out.some (by omega)
      obtain ⟨hbN, v0, a0, a1, a2, g0⟩ := hcc 0 p0 rfl
      obtain ⟨-, v1, b0, b1, b2, g1⟩ := hcc 1 p1 rfl
      obtain ⟨-, v2, d0, d1, d2, g2⟩ := hcc 2 p2 rfl
      obtain ⟨-, v3, e0, e1, e2, g3⟩ := hcc 3 p3 rfl
      simp only [Nat.zero_mul, Nat.one_mul, Nat.add_zero, Nat.reduceMul, Nat.add_assoc, Nat.reduceAdd] at a0 a1 a2 b0 b1 b2 d0 d1 d2 e0 e1 e2
      have HZ := hid (fun W (hW : Below w3.heap.size w3 W) => show (W.cell? ⟨bb, ff + 2, none⟩ = some v0 ∧ W.cell? ⟨bb, ff + 4, none⟩ = some (.int .u64 (p1.n : Int)) ∧ W.cell? ⟨bb, ff + 8, none⟩ = some v2 ∧ W.cell? ⟨bb, ff + 11, none⟩ = some v3) ∧ (convert 29 9 v0).run Tryz.prog W = .ok (.string (strB p0.b)) W ∧ (convert 29 9 v2).run Tryz.prog W = .ok (.string (strB p2.b)) W ∧ (convert 29 9 v3).run Tryz.prog W = .ok (.string (strB p3.b)) W from by
        have hlt : bb < w3.heap.size := Nat.lt_of_lt_of_le hbN HSZ.out
        exact ⟨⟨(hW.cell (p := ⟨bb, ff + 2, none⟩) hlt).trans a2, (hW.cell (p := ⟨bb, ff + 4, none⟩) hlt).trans b1, (hW.cell (p := ⟨bb, ff + 8, none⟩) hlt).trans d2, (hW.cell (p := ⟨bb, ff + 11, none⟩) hlt).trans e2⟩, conv_str (g0.below (hW.mono HSZ.out)), conv_str (g2.below (hW.mono HSZ.out)), conv_str (g3.below (hW.mono HSZ.out))⟩)
      have HF3 := hid F3
      clear hk hk' hcc a0 a1 a2 b0 b1 b2 d0 d1 d2 e0 e1 e2 g0 g1 g2 g3 F3 hks
      go_upto_region 6 with fail
      apply region_goT 21 (by kernel_rfl) (fun W hW => HZ.out W hW) (by kernel_rfl)
      · intro σ; simp [slotAll]; exact rfl
      iterate 20 (apply RK.val rfl; · intro σ W hb hc ⟨hd, hu⟩; simp [Fresh, Region.binds] at hd hu; go_simp; exact rfl)
      apply RK.new (BoxT w3.heap.size) (BoxT.stay _) rfl
      · intro σ W hb hc ⟨hd, hu⟩; simp [Fresh, Region.binds] at hd hu
        have HH := hid (Row.new W 49 [.string ⟨#[]⟩, .int .u64 0, .string ⟨#[]⟩, .string ⟨#[]⟩])
        exact ⟨_, _, by go_simp <;> first | exact rfl | exact ⟨rfl, rfl⟩, (Below.refl _ _).alloc (Nat.le_refl _) _, W.heap.size, rfl, hb.size, HH.out⟩
      intro σ W hb _
      simp only [AllF, List.nil_append, List.cons_append, Nat.reduceAdd]
      intro hF
      obtain ⟨-, -, -, -, -, -, -, -, -, -, -, -, -, -, -, -, -, -, -, e19, ⟨k, e20, hk, hrk⟩, -⟩ := hF
      have F4 := (HF3.out.go hb).join hrk (fun r hr => Nat.lt_of_lt_of_le (HF3.out.rows r hr).lt hk) (Nat.le_trans HF3.out.b.size hk)
      obtain ⟨c0, c1, c2, c3, z0, z1, z2, z3⟩ := hrk.f4
      have HF4 := hid ((((F4.set1 1 0 (.string (strB p0.b)) rfl).set1 1 1 (.int .u64 (p1.n : Int)) rfl).set1 1 2 (.string (strB p2.b)) rfl).set1 1 3 (.string (strB p3.b)) rfl)
      clear hb hrk F4 HZ hk
      simp only [List.drop_succ_cons, List.drop_zero, e19, e20]
      clear e19 e20
      generalize strB p0.b = s0 at *
      generalize strB p2.b = s2 at *
      generalize strB p3.b = s3 at *
      generalize p1.n = n1 at *
      go_upto_region 7 with fail
      refine HF4.out.named4 ?_
      intro w5 F5
      clear HF4 c0 c1 c2 c3 z0 z1 z2 z3
      obtain ⟨k0, k1, k2, k3⟩ := F5.r1.k4
      by_cases y0 : wordB s0 = false
      · rw [if_pos (by simp [y0])] at HE HT
        have HW0 := hid (HW.out s0 w5)
        rw [y0] at HW0
        go_wp2_with fail
        refine HW0.out.mono ?_
        rintro e wx ⟨rfl, hwx⟩
        obtain rfl := hwx.symm
        clear k0 k1 k2 k3
        obtain ⟨c0, c1, c2, c3, z0, z1, z2, z3⟩ := F5.r0.f4
        have HF := hid (F5.four (.string ⟨#[]⟩) (.int .u64 0) (.string ⟨#[]⟩) (.string ⟨#[]⟩))
        obtain ⟨k0, k1, k2, k3⟩ := F5.r1.k4
        clear F5
        go_wp2
        refine ret_ct Tryz.results173 rfl HF.out.r0 structTr rfl ⟨?_, HF.out.b⟩
        rw [HE.out, HT.out]
        rfl
      have y0' : wordB s0 = true := by simpa using y0
      have HW0 := hid (HW.out s0 w5)
      rw [y0'] at HW0
      clear y0
      by_cases y2 : wordB s2 = false
      · rw [if_pos (by simp [y2])] at HE HT
        have HW2 := hid (HW.out s2 w5)
        rw [y2] at HW2
        go_wp2_with fail
        refine HW0.out.mono ?_
        rintro e wx ⟨rfl, hwx⟩
        obtain rfl := hwx.symm
        go_wp2_with fail
        refine HW2.out.mono ?_
        rintro e wx ⟨rfl, hwx⟩
        obtain rfl := hwx.symm
        clear k0 k1 k2 k3
        obtain ⟨c0, c1, c2, c3, z0, z1, z2, z3⟩ := F5.r0.f4
        have HF := hid (F5.four (.string ⟨#[]⟩) (.int .u64 0) (.string ⟨#[]⟩) (.string ⟨#[]⟩))
        obtain ⟨k0, k1, k2, k3⟩ := F5.r1.k4
        clear F5
        go_wp2
        refine ret_ct Tryz.results173 rfl HF.out.r0 structTr rfl ⟨?_, HF.out.b⟩
        rw [HE.out, HT.out]
        rfl
      have y2' : wordB s2 = true := by simpa using y2
      have HW2 := hid (HW.out s2 w5)
      rw [y2'] at HW2
      clear y2
      have HW3 := hid (HW.out s3 w5)
      by_cases y3 : wordB s3 = false
      · rw [if_pos (by simp [y3])] at HE HT
        rw [y3] at HW3
        go_wp2_with fail
        refine HW0.out.mono ?_
        rintro e wx ⟨rfl, hwx⟩
        obtain rfl := hwx.symm
        go_wp2_with fail
        refine HW2.out.mono ?_
        rintro e wx ⟨rfl, hwx⟩
        obtain rfl := hwx.symm
        go_wp2_with fail
        refine HW3.out.mono ?_
        rintro e wx ⟨rfl, hwx⟩
        obtain rfl := hwx.symm
        clear k0 k1 k2 k3
        obtain ⟨c0, c1, c2, c3, z0, z1, z2, z3⟩ := F5.r0.f4
        have HF := hid (F5.four (.string ⟨#[]⟩) (.int .u64 0) (.string ⟨#[]⟩) (.string ⟨#[]⟩))
        obtain ⟨k0, k1, k2, k3⟩ := F5.r1.k4
        clear F5
        go_wp2
        refine ret_ct Tryz.results173 rfl HF.out.r0 structTr rfl ⟨?_, HF.out.b⟩
        rw [HE.out, HT.out]
        rfl
      have y3' : wordB s3 = true := by simpa using y3
      rw [y3'] at HW3
      rw [if_neg (by simp [y0', y2', y3'])] at HE HT
      clear y3 y0' y2' y3'
      go_wp2_with fail
      refine HW0.out.mono ?_
      rintro e wx ⟨rfl, hwx⟩
      obtain rfl := hwx.symm
      go_wp2_with fail
      refine HW2.out.mono ?_
      rintro e wx ⟨rfl, hwx⟩
      obtain rfl := hwx.symm
      go_wp2_with fail
      refine HW3.out.mono ?_
      rintro e wx ⟨rfl, hwx⟩
      obtain rfl := hwx.symm
      by_cases hn0 : n1 = 0
      · subst hn0
        rw [if_pos rfl] at HE HT
        clear k0 k1 k2 k3
        obtain ⟨c0, c1, c2, c3, z0, z1, z2, z3⟩ := F5.r0.f4
        have HF := hid (F5.four (.string ⟨#[]⟩) (.int .u64 0) (.string ⟨#[]⟩) (.string ⟨#[]⟩))
        obtain ⟨k0, k1, k2, k3⟩ := F5.r1.k4
        clear F5
        go_wp2
        refine ret_ct Tryz.results173 rfl HF.out.r0 structTr rfl ⟨?_, HF.out.b⟩
        rw [HE.out, HT.out]
        rfl
      · rw [if_neg hn0] at HE HT
        have q1 : ((n1 : Int) == 0) = false := by simp; exact hn0
        have q2 : (n1 == 0) = false := by simpa using hn0
        obtain ⟨c0, c1, c2, c3, z0, z1, z2, z3⟩ := F5.r0.f4
        have HF := hid (F5.four (.string s0) (.int .u64 (n1 : Int)) (.string s2) (.string s3))
        clear F5
        go_wp2
        refine ret_ct Tryz.results173 rfl HF.out.r0 structTr rfl ⟨?_, HF.out.b⟩
        rw [HE.out, HT.out]
        rfl
  · rw [parse_bad hc] at HE HT
    have F1 := F0.go hb1
    have hc0 := rdAll_ne hc
    have hcc : (c != 0) = true := by simpa using hc0
    obtain ⟨c0, c1, c2, c3, z0, z1, z2, z3⟩ := F1.r0.f4
    have HF := hid (F1.four (.string ⟨#[]⟩) (.int .u64 0) (.string ⟨#[]⟩) (.string ⟨#[]⟩))
    clear F0 F1 hb1 hc hc0
    go_wp2
    refine ret_ct Tryz.results173 rfl HF.out.r0 structTr rfl ⟨?_, HF.out.b⟩
    rw [HE.out, HT.out]
    rfl
end Go.Proofs.YtbjlfhabnjpdmaaGreatDoor
