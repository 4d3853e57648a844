/-
  The document's Parse of a transfer.
-/
import Derived.Test.YtnoaohlajllngaaDoortlBkRef1
import Derived.Test.YtnoaohlajllngaaDoortlBkCame
import Derived.Test.YtnoaohlajllngaaDoortlBkParse
import Derived.Test.YtnoaohlajllngaaDoortlRef3Read
namespace Go.Proofs.YtnoaohlajllngaaDoor
open Go.RowKit

def kindS (m : List Pc) : ByteArray := m.foldl (fun s p => s ++ digS p.k.toNat) ⟨#[]⟩
def kindN (p : Pc) : UInt8 := if p.k = 1 then 49 else 50
theorem wrGo_kinds : ∀ (m : List Pc) (i : Nat) (o b : List (BitVec 8)), wrGo i o m = .ok b → ∀ p ∈ m, p.k = 1 ∨ p.k = 2
  | [], _, _, _, _ => fun p hp => by cases hp
  | q :: r, i, o, b, h => fun p hp => by
    unfold wrGo at h
    split at h
    · cases h
    · rename_i h1
      split at h
      · cases h
      · rcases List.mem_cons.1 hp with rfl | hp
        · exact Decidable.byContradiction fun hc => h1 ⟨fun e => hc (.inl e), fun e => hc (.inr e)⟩
        · exact wrGo_kinds r _ _ b h p hp
theorem wr_kinds {m : List Pc} {b : List (BitVec 8)} (h : wrAll m = .ok b) : ∀ p ∈ m, p.k = 1 ∨ p.k = 2 := by
  unfold wrAll at h
  split at h
  · cases h
  · exact wrGo_kinds m _ _ b h
theorem digS_kind {p : Pc} (h : p.k = 1 ∨ p.k = 2) : digS p.k.toNat = ⟨#[kindN p]⟩ := by
  unfold kindN digS
  rcases h with h | h <;> rw [h] <;> unfold Lib.decDigits <;> simp
theorem kindS_go : ∀ (m : List Pc) (s : ByteArray), (∀ p ∈ m, p.k = 1 ∨ p.k = 2) → (m.foldl (fun s p => s ++ digS p.k.toNat) s).data.toList = s.data.toList ++ m.map kindN
  | [], s, _ => by simp
  | p :: r, s, h => by
    rw [List.foldl_cons, kindS_go r _ fun q hq => h q (.tail _ hq), digS_kind (h p (.head _)), List.map_cons, ByteArray.data_append]
    simp
theorem kindS_list {m : List Pc} (h : ∀ p ∈ m, p.k = 1 ∨ p.k = 2) : (kindS m).data.toList = m.map kindN := by
  unfold kindS
  rw [kindS_go m _ h]
  rfl
theorem kindS_more (m : List Pc) (k : Nat) (p : Pc) (h : m[k]? = some p) : kindS (m.take (k + 1)) = kindS (m.take k) ++ digS p.k.toNat := by
  unfold kindS
  rw [List.take_add_one, h, Option.toList_some, List.foldl_append]
  rfl
theorem kindS_size {m : List Pc} (h : ∀ p ∈ m, p.k = 1 ∨ p.k = 2) (k : Nat) : (kindS (m.take k)).size ≤ m.length := by
  have := congrArg List.length (kindS_list (m := m.take k) fun p hp => h p (List.mem_of_mem_take hp))
  rw [List.length_map, List.length_take, Array.length_toList] at this
  show (kindS (m.take k)).data.size ≤ _
  omega
theorem kinds_iff {m : List Pc} (h : ∀ p ∈ m, p.k = 1 ∨ p.k = 2) : kindS m = ⟨#[50, 49, 50, 50]⟩ ↔ kindsB m [2, 1, 2, 2] = true := by
  have e := kindS_list h
  constructor
  · intro g
    rw [g] at e
    unfold kindsB
    rw [decide_eq_true_eq]
    rcases m with _ | ⟨p0, _ | ⟨p1, _ | ⟨p2, _ | ⟨p3, _ | ⟨p4, m⟩⟩⟩⟩⟩ <;> simp at e
    obtain ⟨e0, e1, e2, e3⟩ := e
    have k0 := h p0 (by simp)
    have k1 := h p1 (by simp)
    have k2 := h p2 (by simp)
    have k3 := h p3 (by simp)
    unfold kindN at e0 e1 e2 e3
    have f0 : p0.k = 2 := by rcases k0 with k | k; · rw [if_pos k] at e0; exact absurd e0 (by decide)
                             · exact k
    have f1 : p1.k = 1 := by rcases k1 with k | k; · exact k
                             · rw [if_neg (by rw [k]; decide)] at e1; exact absurd e1 (by decide)
    have f2 : p2.k = 2 := by rcases k2 with k | k; · rw [if_pos k] at e2; exact absurd e2 (by decide)
                             · exact k
    have f3 : p3.k = 2 := by rcases k3 with k | k; · rw [if_pos k] at e3; exact absurd e3 (by decide)
                             · exact k
    simp [f0, f1, f2, f3]
  · intro g
    obtain ⟨p0, p1, p2, p3, rfl, h0, h1, h2, h3⟩ := kinds4 g
    refine ByteArray.ext (Array.toList_inj.1 ?_)
    rw [e]
    simp [kindN, h0, h1, h2, h3]
theorem lit2122 : (⟨#[50, 49, 50, 50]⟩ : ByteArray).toList = [50, 49, 50, 50] := by rw [ByteArray.toList_eq]
theorem kinds_no {m : List Pc} (h : ∀ p ∈ m, p.k = 1 ∨ p.k = 2) (hk : kindsB m [2, 1, 2, 2] = false) : ((kindS m).toList == [50, 49, 50, 50]) = false := by
  rw [← lit2122]
  refine str_ne10 fun e => ?_
  rw [(kinds_iff h).1 e] at hk
  cases hk
theorem kinds_yes {m : List Pc} (h : ∀ p ∈ m, p.k = 1 ∨ p.k = 2) (hk : kindsB m [2, 1, 2, 2] = true) : ((kindS m).toList == [50, 49, 50, 50]) = true := by
  rw [← lit2122, (kinds_iff h).2 hk]
  simp
set_option maxRecDepth 100000 in
set_option maxHeartbeats 4000000 in
theorem rparse_any (b : List (BitVec 8)) (sv : Value) (N : Nat) (w : World) (hb : Bytes w N sv b) (hN : N ≤ w.heap.size) (hlen : b.length ≤ 140737488355328) :
    Calls Tryd.prog 6 #[sv] w fun e w' => e = .returned (.tuple #[trV (parseT b), .int .i64 (parseE b)]) ∧ Below w.heap.size w w' := by
  have HC := hid (fun W (h : Below w.heap.size w W) => refRead_any b sv N W (hb.below (h.mono hN)) (Nat.le_trans hN h.size) hlen)
  obtain ⟨oa, ca, rfl, -⟩ := hb.shape
  have HW := hid rword_any
  have HE := hid (show parseE b = match parseR b with | .ok _ => 0 | .error c => c from rfl)
  have HT := hid (show parseT b = match parseR b with | .ok t => t | .error _ => Tr.zero from rfl)
  clear hb hlen
  generalize b.length = bl at *
  go_enter Tryd.func6, Tryd.ntmps6
  go_upto_region 1 with fail
  refine fbox1 ?_
  intro w0 F0 hs
  clear hs
  go_wp2_with fail
  refine (HC.out w0 F0.b).mono ?_
  rintro e w1 ⟨hb1, ⟨m, v, hm, rfl, hv⟩ | ⟨c, hc, rfl⟩⟩
  · have F1 := F0.go hb1
    have HPR := hid (parse_unfold hm)
    have HMK := hid ((wr_rd b m hm).2)
    have HKO := hid (wr_kinds (wr_rd b m hm).1)
    obtain ⟨ov, cv, rfl, -⟩ := hv.shape
    have HV := hid hv
    clear hb1 F0 hm hv
    rw [HPR.out] at HE HT
    generalize hml : m.length = ml at *
    have HML := hid hml
    clear hml
    have HF1 := hid F1
    clear F1
    go_wp2_with fail
    go_loopw [6, 21] (fun s6 s21 wr => ∃ k : Nat, k ≤ ml ∧ s21 = .int .i64 k ∧ s6 = .string (kindS (m.take k)) ∧ Hid (Below w1.heap.size w1 wr)) (fun _ s21 _ => ml - (intOf s21).toNat)
    case atStart => exact ⟨0, Nat.zero_le _, rfl, rfl, Below.refl _ _⟩
    case round =>
      obtain ⟨k, hk, rfl, rfl, HBW⟩ := hrel
      by_cases hlt : k < ml
      · obtain ⟨p, hp⟩ : ∃ p, m[k]? = some p := ⟨m[k]'(by rw [HML.out]; exact hlt), List.getElem?_eq_getElem _⟩
        obtain ⟨bb, f, rfl, hcc⟩ := HV.out.some (by omega)
        obtain ⟨hbN, vb, c0, c1, c2, hvb⟩ := hcc k p hp
        obtain ⟨ob, cb, rfl, -⟩ := hvb.shape
        clear hvb
        have HKM := hid (kindS_more m k p hp)
        have hkk := HKO.out p (List.mem_of_getElem? hp)
        obtain ⟨kk, hkk'⟩ : ∃ kk : Nat, p.k = (kk : Int) := ⟨p.k.toNat, by rcases hkk with h | h <;> rw [h] <;> rfl⟩
        have hk63 : kk ≤ 9 := by omega
        have hks := kindS_size HKO.out k
        rw [hkk', Int.toNat_natCast] at HKM
        rw [hkk'] at c0
        have hq : ∀ W : World, (Op.stringOp .add (kindS (m.take k)) (digS kk)).run Tryd.prog W = .ok (.string (kindS (m.take (k + 1)))) W := fun W => by
          rw [HKM.out]
          exact run_string_add_sum W _ _ (by have := digS_size kk (by omega); have := HMK.out.1; have := HML.out; omega)
        generalize p.b.length = pl at *
        generalize kindS (m.take k) = s0 at *
        generalize hs1 : kindS (m.take (k + 1)) = s1 at *
        have HS1 := hid hs1
        have h200 : ml ≤ 200 := by have := HMK.out.1; have := HML.out; omega
        clear hs1
        have hbs : bb < wr.heap.size := Nat.lt_of_lt_of_le hbN HBW.out.size
        replace c0 := (HBW.out.cell (p := ⟨bb, f + k * 3, none⟩) hbN).trans c0
        replace c1 := (HBW.out.cell (p := ⟨bb, f + k * 3 + 1, none⟩) hbN).trans c1
        replace c2 := (HBW.out.cell (p := ⟨bb, f + k * 3 + 2, none⟩) hbN).trans c2
        have hlt' : (k : Int) < (ml : Int) := by omega
        clear hp hcc hkk hkk' hks HKM hbN
        go_upto_region 8 with fail
        refine boxK ?_
        intro w2 hr2 hb2
        have HB2 := hid (HBW.out.trans (hb2.mono HBW.out.size))
        obtain ⟨k0, k1, k2⟩ := hr2.k3
        clear c0 c1 c2 hr2 hb2 hbs
        go_wp2_with fail
        refine (rdig_any kk (by omega) w2).mono ?_
        rintro e w3 ⟨rfl, hb3⟩
        have HB3 := hid (HB2.out.trans (hb3.mono HB2.out.size))
        clear hb3 k0 k1 k2
        go_wp2_with fail
        exact ⟨⟨k + 1, by omega, by go_num, by rw [HS1.out], HB3⟩, by simp [intOf]; omega⟩
      · obtain rfl : k = ml := by omega
        have hlt' : decide ((k : Int) < (k : Int)) = false := by simp
        rw [List.take_of_length_le (by rw [HML.out]; exact Nat.le_refl _)]
        have F3 := HF1.out.go HBW.out
        have HV3 := hid (HV.out.below HBW.out)
        have HSZ := hid HBW.out.size
        clear HF1 hlt hk HBW
        by_cases hk : kindsB m [2, 1, 2, 2] = false
        · have e1 := kinds_no HKO.out hk
          rw [parse_form hk] at HE HT
          obtain ⟨c0, c1, c2, c3, z0, z1, z2, z3⟩ := F3.r0.f4
          have HF := hid (F3.four (.string ⟨#[]⟩) (.int .u64 0) (.string ⟨#[]⟩) (.string ⟨#[]⟩))
          clear F3 hk
          go_wp2
          refine ret_ct Tryd.results6 rfl HF.out.r0 structTr rfl ⟨?_, HF.out.b⟩
          rw [HE.out, HT.out]
          rfl
        · have hk' : kindsB m [2, 1, 2, 2] = true := by simpa using hk
          have e1 := kinds_yes HKO.out hk'
          generalize kindS m = km at *
          obtain ⟨p0, p1, p2, p3, rfl, hks⟩ := kinds4 hk'
          rw [parse_four hks] at HE HT
          obtain rfl : k = 4 := by rw [← HML.out]; rfl
          obtain ⟨bb, ff, rfl, hcc⟩ := HV3.out.some (by omega)
          obtain ⟨hbN, v0, a0, a1, a2, g0⟩ := hcc 0 p0 rfl
          obtain ⟨-, v1, b0, b1, b2, g1⟩ := hcc 1 p1 rfl
          obtain ⟨-, v2, d0, d1, d2, g2⟩ := hcc 2 p2 rfl
          obtain ⟨-, v3, e0, e1, e2, g3⟩ := hcc 3 p3 rfl
          simp only [Nat.zero_mul, Nat.one_mul, Nat.add_zero, Nat.reduceMul, Nat.add_assoc, Nat.reduceAdd] at a0 a1 a2 b0 b1 b2 d0 d1 d2 e0 e1 e2
          have HZ := hid (fun W (hW : Below wr.heap.size wr W) => show (W.cell? ⟨bb, ff + 2, none⟩ = some v0 ∧ W.cell? ⟨bb, ff + 4, none⟩ = some (.int .u64 (p1.n : Int)) ∧ W.cell? ⟨bb, ff + 8, none⟩ = some v2 ∧ W.cell? ⟨bb, ff + 11, none⟩ = some v3) ∧ (convert 26 9 v0).run Tryd.prog W = .ok (.string (strB p0.b)) W ∧ (convert 26 9 v2).run Tryd.prog W = .ok (.string (strB p2.b)) W ∧ (convert 26 9 v3).run Tryd.prog W = .ok (.string (strB p3.b)) W from by
            have hlt : bb < wr.heap.size := Nat.lt_of_lt_of_le hbN HSZ.out
            exact ⟨⟨(hW.cell (p := ⟨bb, ff + 2, none⟩) hlt).trans a2, (hW.cell (p := ⟨bb, ff + 4, none⟩) hlt).trans b1, (hW.cell (p := ⟨bb, ff + 8, none⟩) hlt).trans d2, (hW.cell (p := ⟨bb, ff + 11, none⟩) hlt).trans e2⟩, conv_str (g0.below (hW.mono HSZ.out)), conv_str (g2.below (hW.mono HSZ.out)), conv_str (g3.below (hW.mono HSZ.out))⟩)
          have HF3 := hid F3
          clear hk hk' hcc a0 a1 a2 b0 b1 b2 d0 d1 d2 e0 e1 e2 g0 g1 g2 g3 F3 hks
          go_upto_region 12 with fail
          apply region_goT 21 (by kernel_rfl) (fun W hW => HZ.out W hW) (by kernel_rfl)
          · intro σ; simp [slotAll]; exact rfl
          iterate 20 (apply RK.val rfl; · intro σ W hb hc ⟨hd, hu⟩; simp [Fresh, Region.binds] at hd hu; go_simp; exact rfl)
          apply RK.new (BoxT wr.heap.size) (BoxT.stay _) rfl
          · intro σ W hb hc ⟨hd, hu⟩; simp [Fresh, Region.binds] at hd hu
            have HH := hid (Row.new W 25 [.string ⟨#[]⟩, .int .u64 0, .string ⟨#[]⟩, .string ⟨#[]⟩])
            exact ⟨_, _, by go_simp <;> first | exact rfl | exact ⟨rfl, rfl⟩, (Below.refl _ _).alloc (Nat.le_refl _) _, W.heap.size, rfl, hb.size, HH.out⟩
          intro σ W hb _
          simp only [AllF, List.nil_append, List.cons_append, Nat.reduceAdd]
          intro hF
          obtain ⟨-, -, -, -, -, -, -, -, -, -, -, -, -, -, -, -, -, -, -, e19, ⟨k, e20, hk, hrk⟩, -⟩ := hF
          have F4 := (HF3.out.go hb).join hrk (fun r hr => Nat.lt_of_lt_of_le (HF3.out.rows r hr).lt hk) (Nat.le_trans HF3.out.b.size hk)
          obtain ⟨c0, c1, c2, c3, z0, z1, z2, z3⟩ := hrk.f4
          have HF4 := hid ((((F4.set1 1 0 (.string (strB p0.b)) rfl).set1 1 1 (.int .u64 (p1.n : Int)) rfl).set1 1 2 (.string (strB p2.b)) rfl).set1 1 3 (.string (strB p3.b)) rfl)
          clear hb hrk F4 HZ hk
          simp only [List.drop_succ_cons, List.drop_zero, e19, e20]
          clear e19 e20
          generalize strB p0.b = s0 at *
          generalize strB p2.b = s2 at *
          generalize strB p3.b = s3 at *
          generalize p1.n = n1 at *
          go_upto_region 13 with fail
          refine HF4.out.named4 ?_
          intro w5 F5
          clear HF4 c0 c1 c2 c3 z0 z1 z2 z3
          obtain ⟨k0, k1, k2, k3⟩ := F5.r1.k4
          by_cases y0 : wordB s0 = false
          · rw [if_pos (by simp [y0])] at HE HT
            have HW0 := hid (HW.out s0 w5)
            rw [y0] at HW0
            go_wp2_with fail
            refine HW0.out.mono ?_
            rintro e wx ⟨rfl, hwx⟩
            obtain rfl := hwx.symm
            clear k0 k1 k2 k3
            obtain ⟨c0, c1, c2, c3, z0, z1, z2, z3⟩ := F5.r0.f4
            have HF := hid (F5.four (.string ⟨#[]⟩) (.int .u64 0) (.string ⟨#[]⟩) (.string ⟨#[]⟩))
            obtain ⟨k0, k1, k2, k3⟩ := F5.r1.k4
            clear F5
            go_wp2
            refine ret_ct Tryd.results6 rfl HF.out.r0 structTr rfl ⟨?_, HF.out.b⟩
            rw [HE.out, HT.out]
            rfl
          have y0' : wordB s0 = true := by simpa using y0
          have HW0 := hid (HW.out s0 w5)
          rw [y0'] at HW0
          clear y0
          by_cases y2 : wordB s2 = false
          · rw [if_pos (by simp [y2])] at HE HT
            have HW2 := hid (HW.out s2 w5)
            rw [y2] at HW2
            go_wp2_with fail
            refine HW0.out.mono ?_
            rintro e wx ⟨rfl, hwx⟩
            obtain rfl := hwx.symm
            go_wp2_with fail
            refine HW2.out.mono ?_
            rintro e wx ⟨rfl, hwx⟩
            obtain rfl := hwx.symm
            clear k0 k1 k2 k3
            obtain ⟨c0, c1, c2, c3, z0, z1, z2, z3⟩ := F5.r0.f4
            have HF := hid (F5.four (.string ⟨#[]⟩) (.int .u64 0) (.string ⟨#[]⟩) (.string ⟨#[]⟩))
            obtain ⟨k0, k1, k2, k3⟩ := F5.r1.k4
            clear F5
            go_wp2
            refine ret_ct Tryd.results6 rfl HF.out.r0 structTr rfl ⟨?_, HF.out.b⟩
            rw [HE.out, HT.out]
            rfl
          have y2' : wordB s2 = true := by simpa using y2
          have HW2 := hid (HW.out s2 w5)
          rw [y2'] at HW2
          clear y2
          have HW3 := hid (HW.out s3 w5)
          by_cases y3 : wordB s3 = false
          · rw [if_pos (by simp [y3])] at HE HT
            rw [y3] at HW3
            go_wp2_with fail
            refine HW0.out.mono ?_
            rintro e wx ⟨rfl, hwx⟩
            obtain rfl := hwx.symm
            go_wp2_with fail
            refine HW2.out.mono ?_
            rintro e wx ⟨rfl, hwx⟩
            obtain rfl := hwx.symm
            go_wp2_with fail
            refine HW3.out.mono ?_
            rintro e wx ⟨rfl, hwx⟩
            obtain rfl := hwx.symm
            clear k0 k1 k2 k3
            obtain ⟨c0, c1, c2, c3, z0, z1, z2, z3⟩ := F5.r0.f4
            have HF := hid (F5.four (.string ⟨#[]⟩) (.int .u64 0) (.string ⟨#[]⟩) (.string ⟨#[]⟩))
            obtain ⟨k0, k1, k2, k3⟩ := F5.r1.k4
            clear F5
            go_wp2
            refine ret_ct Tryd.results6 rfl HF.out.r0 structTr rfl ⟨?_, HF.out.b⟩
            rw [HE.out, HT.out]
            rfl
          have y3' : wordB s3 = true := by simpa using y3
          rw [y3'] at HW3
          rw [if_neg (by simp [y0', y2', y3'])] at HE HT
          clear y3 y0' y2' y3'
          go_wp2_with fail
          refine HW0.out.mono ?_
          rintro e wx ⟨rfl, hwx⟩
          obtain rfl := hwx.symm
          go_wp2_with fail
          refine HW2.out.mono ?_
          rintro e wx ⟨rfl, hwx⟩
          obtain rfl := hwx.symm
          go_wp2_with fail
          refine HW3.out.mono ?_
          rintro e wx ⟨rfl, hwx⟩
          obtain rfl := hwx.symm
          by_cases hn0 : n1 = 0
          · subst hn0
            rw [if_pos rfl] at HE HT
            clear k0 k1 k2 k3
            obtain ⟨c0, c1, c2, c3, z0, z1, z2, z3⟩ := F5.r0.f4
            have HF := hid (F5.four (.string ⟨#[]⟩) (.int .u64 0) (.string ⟨#[]⟩) (.string ⟨#[]⟩))
            obtain ⟨k0, k1, k2, k3⟩ := F5.r1.k4
            clear F5
            go_wp2
            refine ret_ct Tryd.results6 rfl HF.out.r0 structTr rfl ⟨?_, HF.out.b⟩
            rw [HE.out, HT.out]
            rfl
          · rw [if_neg hn0] at HE HT
            have q1 : ((n1 : Int) == 0) = false := by simp; exact hn0
            have q2 : (n1 == 0) = false := by simpa using hn0
            obtain ⟨c0, c1, c2, c3, z0, z1, z2, z3⟩ := F5.r0.f4
            have HF := hid (F5.four (.string s0) (.int .u64 (n1 : Int)) (.string s2) (.string s3))
            clear F5
            go_wp2
            refine ret_ct Tryd.results6 rfl HF.out.r0 structTr rfl ⟨?_, HF.out.b⟩
            rw [HE.out, HT.out]
            rfl
  · rw [parse_bad hc] at HE HT
    have F1 := F0.go hb1
    have hc0 := rdAll_ne hc
    have hcc : (c != 0) = true := by simpa using hc0
    obtain ⟨c0, c1, c2, c3, z0, z1, z2, z3⟩ := F1.r0.f4
    have HF := hid (F1.four (.string ⟨#[]⟩) (.int .u64 0) (.string ⟨#[]⟩) (.string ⟨#[]⟩))
    clear F0 F1 hb1 hc hc0
    go_wp2
    refine ret_ct Tryd.results6 rfl HF.out.r0 structTr rfl ⟨?_, HF.out.b⟩
    rw [HE.out, HT.out]
    rfl
end Go.Proofs.YtnoaohlajllngaaDoor
