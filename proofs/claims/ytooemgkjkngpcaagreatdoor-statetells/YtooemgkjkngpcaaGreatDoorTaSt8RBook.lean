/-
  What the document's Book answers.
-/
import Derived.Test.YtooemgkjkngpcaaGreatDoorTaSt8RB1
import Derived.Test.YtooemgkjkngpcaaGreatDoorTaSt8RB4
import Derived.Test.YtooemgkjkngpcaaGreatDoorTaSt8RWrong
import Derived.Test.YtooemgkjkngpcaaGreatDoorTaStBookC
import Derived.BigQuiet
import Derived.Deep.RegionHeld3
import Derived.Deep.RegionWith
namespace Go.Proofs.YtooemgkjkngpcaaGreatDoor
open Go.RowKit

set_option maxRecDepth 1000000 in
set_option maxHeartbeats 8000000 in
theorem bkChan_block {s0 s1 s2 s3 s4 s6 s7 s8 s9 s10 s11 s12 s13 s14 s15 s16 s17 s18 s19 s20 s21 s22 s23 s24 s25 s26 s27 s28 s29 s30 s31 s32 s33 s34 s35 s36 s40 s41 s42 s43 s44 s45 s46 s47 s48 s49 s50 s51 s52 s53 s54 s55 s56 s57 s58 s59 s60 s61 s62 s63 s64 s65 s66 s67 s68 s69 s70 s71 s72 s73 s74 s75 s76 s77 s78 s79 s80 s81 s82 s83 s84 s85 s86 s87 s88 s89 s90 s91 s92 s93 s94 s95 s96 s97 : Value} (L0 : List Dg) (sv : Value) (l : List Ch) (oa : Option Addr) (ca N : Nat) (w : World) (hN : N ≤ w.heap.size) (hv : Hid (Many ChR 7 w N (.slice oa l.length ca) l)) (hl : l.length ≤ 8) (hL0 : L0.length ≤ 200) (hA0 : Hid (Acc w sv (setAll L0 []))) (hC : Hid (∀ c ∈ l, wrongCh c = 0)) (hE : Hid (∀ d ∈ l.zipIdx.flatMap entCh, DgOk d)) (Q : Exit → Act → World → Prop)
    (hGo : Hid (∀ (u5 u8 u9 u39 u40 u41 u42 u43 u44 u45 u46 u47 u48 u49 u50 u51 u52 u53 u54 u55 u56 u57 u58 u59 u60 u61 u62 u63 : Value) (w' : World), Below w.heap.size w w' → Acc w' u5 (setAll (L0 ++ l.zipIdx.flatMap entCh) []) → Q .normal ⟨#[s0, s1, s2, s3, s4, u5, s6, s7, u8, u9, s10, s11, s12, s13, s14, s15, s16, s17, s18, s19, s20, s21, s22, s23, s24, s25, s26, s27, s28, s29, s30, s31, s32, s33, s34, s35, s36, .slice oa l.length ca, .int .i64 (l.length : Int), u39, u40, u41, u42, u43, u44, u45, u46, u47, u48, u49, u50, u51, u52, u53, u54, u55, u56, u57, u58, u59, u60, u61, u62, u63, s64, s65, s66, s67, s68, s69, s70, s71, s72, s73, s74, s75, s76, s77, s78, s79, s80, s81, s82, s83, s84, s85, s86, s87, s88, s89, s90, s91, s92, s93, s94, s95, s96, s97], []⟩ w')) :
    Code.wp Tryz.prog ((Tryz.f10.body.bind (inBlock 2)).getD .skip) (Exit.inBlock 2 Q) ⟨#[s0, s1, s2, s3, s4, sv, s6, s7, s8, s9, s10, s11, s12, s13, s14, s15, s16, s17, s18, s19, s20, s21, s22, s23, s24, s25, s26, s27, s28, s29, s30, s31, s32, s33, s34, s35, s36, .slice oa l.length ca, .int .i64 (l.length : Int), .int .i64 0, s40, s41, s42, s43, s44, s45, s46, s47, s48, s49, s50, s51, s52, s53, s54, s55, s56, s57, s58, s59, s60, s61, s62, s63, s64, s65, s66, s67, s68, s69, s70, s71, s72, s73, s74, s75, s76, s77, s78, s79, s80, s81, s82, s83, s84, s85, s86, s87, s88, s89, s90, s91, s92, s93, s94, s95, s96, s97], []⟩ w := by
  conv => arg 2; whnf
  conv => arg 4; dsimp only
  generalize hn : l.length = n at *
  have HN := hid hn
  clear hn
  go_loopw [5, 39] (fun v i wr => ∃ k : Nat, k ≤ n ∧ i = .int .i64 (k : Int) ∧ Hid (Below w.heap.size w wr ∧ Acc wr v (setAll (L0 ++ (l.zipIdx.take k).flatMap entCh) []))) (fun _ i _ => n - (intOf i).toNat)
  case atStart => exact ⟨0, by omega, rfl, hid ⟨Below.refl _ _, by simpa using hA0.out⟩⟩
  case round =>
    obtain ⟨k, hk, rfl, HT⟩ := hrel
    have HBW := hid HT.out.1
    have HAC := hid HT.out.2
    clear HT
    have hszw := HBW.out.size
    by_cases hlt : k < n
    · obtain ⟨x, hx⟩ : ∃ x, l[k]? = some x := ⟨l[k]'(by rw [HN.out]; exact hlt), List.getElem?_eq_getElem _⟩
      have hlt' : (k : Int) < (n : Int) := by omega
      obtain ⟨b, o, rfl, hcells⟩ := hv.out.spot (by omega)
      obtain ⟨hbN, r, hr, hc⟩ := hcells k x hx
      obtain rfl := hr
      have hbl : b < w.heap.size := by omega
      have f0 := (HBW.out.cell (p := ⟨b, o + k * 7 + 0, none⟩) hbl).trans (hc 0 _ rfl)
      have f1 := (HBW.out.cell (p := ⟨b, o + k * 7 + 1, none⟩) hbl).trans (hc 1 _ rfl)
      have f2 := (HBW.out.cell (p := ⟨b, o + k * 7 + 2, none⟩) hbl).trans (hc 2 _ rfl)
      have f3 := (HBW.out.cell (p := ⟨b, o + k * 7 + 3, none⟩) hbl).trans (hc 3 _ rfl)
      have f4 := (HBW.out.cell (p := ⟨b, o + k * 7 + 4, none⟩) hbl).trans (hc 4 _ rfl)
      have f5 := (HBW.out.cell (p := ⟨b, o + k * 7 + 5, none⟩) hbl).trans (hc 5 _ rfl)
      have f6 := (HBW.out.cell (p := ⟨b, o + k * 7 + 6, none⟩) hbl).trans (hc 6 _ rfl)
      simp only [Nat.add_zero] at f0
      obtain ⟨w2, hw2⟩ : ∃ w2, wr.alloc (.cells #[.int .i64 x.state, .bool x.ordered, .int .i64 x.conn, .int .i64 x.ochan, .int .i64 x.send, .int .i64 x.recv, .int .i64 x.ack] 75) = w2 := ⟨_, rfl⟩
      have hbr2 : Below wr.heap.size wr w2 := by rw [← hw2]; exact (Below.refl _ _).alloc (Nat.le_refl _) _
      have HB2 := hid (HBW.out.trans (hbr2.mono hszw))
      have HR2 := hid (show Row w2 wr.heap.size 75 [.int .i64 x.state, .bool x.ordered, .int .i64 x.conn, .int .i64 x.ochan, .int .i64 x.send, .int .i64 x.recv, .int .i64 x.ack] by rw [← hw2]; exact Row.new _ _ _)
      have HA2 := hid (HAC.out.below hbr2)
      have HW2 := hid hw2
      have hz := zip_at l k x hx
      have HNX := hid (show setAll (L0 ++ (l.zipIdx.take (k + 1)).flatMap entCh) [] = setP ⟨keyL kwNext [k], numsB [x.recv]⟩ (setP ⟨keyL kwChan [k], chanB x⟩ (setAll (L0 ++ (l.zipIdx.take k).flatMap entCh) [])) by
        rw [take_next _ k _ hz, List.flatMap_append, ← List.append_assoc, setAll_append (L0 ++ (l.zipIdx.take k).flatMap entCh)]
        rfl)
      have hlen0 : (setAll (L0 ++ (l.zipIdx.take k).flatMap entCh) []).length ≤ 800 := by
        have := setAll_len (L0 ++ (l.zipIdx.take k).flatMap entCh) []
        have h2 : ((l.zipIdx.take k).flatMap entCh).length ≤ 2 * l.length := by
          rw [List.length_flatMap]
          have : ∀ (m : List (Ch × Nat)), (m.map fun a => (entCh a).length).sum = 2 * m.length := fun m => by
            induction m with
            | nil => rfl
            | cons a m ih => rw [List.map_cons, List.sum_cons, ih, List.length_cons]; simp [entCh]; omega
          rw [this, List.length_take, List.length_zipIdx]
          omega
        rw [List.length_append, List.length_nil] at this
        rw [HN.out] at h2
        omega
      have hlen : (setAll (L0 ++ (l.zipIdx.take k).flatMap entCh) []).length ≤ 1000 := by omega
      have hlen2 : (setP ⟨keyL kwChan [k], chanB x⟩ (setAll (L0 ++ (l.zipIdx.take k).flatMap entCh) [])).length ≤ 1000 := by
        have := setAll_len [⟨keyL kwChan [k], chanB x, false⟩] (setAll (L0 ++ (l.zipIdx.take k).flatMap entCh) [])
        rw [List.length_singleton] at this
        have h3 : setAll [⟨keyL kwChan [k], chanB x, false⟩] (setAll (L0 ++ (l.zipIdx.take k).flatMap entCh) []) = setP ⟨keyL kwChan [k], chanB x⟩ (setAll (L0 ++ (l.zipIdx.take k).flatMap entCh) []) := rfl
        rw [h3] at this
        omega
      have hok1 := hE.out ⟨keyL kwChan [k], chanB x, false⟩ (List.mem_flatMap.2 ⟨_, List.mem_of_getElem? hz, by simp [entCh]⟩)
      have hok2 := hE.out ⟨keyL kwNext [k], numsB [x.recv], false⟩ (List.mem_flatMap.2 ⟨_, List.mem_of_getElem? hz, by simp [entCh]⟩)
      have hfit1 : (keyL kwChan [k]).length ≤ 140737488351232 ∧ (chanB x).length ≤ 140737488351232 := by
        have h1 := hok1.1
        have h2 := hok1.2.1
        simp only at h1 h2
        omega
      have hfit2 : (keyL kwNext [k]).length ≤ 140737488351232 ∧ (numsB [x.recv]).length ≤ 140737488351232 := by
        have h1 := hok2.1
        have h2 := hok2.2.1
        simp only at h1 h2
        omega
      have HC := hid (hC.out x (List.mem_of_getElem? hx))
      have hok := wrongCh_ok HC.out
      obtain ⟨rv, hrv⟩ : ∃ q : Nat, x.recv = (q : Int) := ⟨x.recv.toNat, by omega⟩
      have hrn : rv < 9223372036854775808 := by omega
      have HRV := hid hrv
      have HX := hid (nums_wr [x.recv] (by simp) (fun n hn => by simp at hn; omega)).1
      have HPF := hid (numPc_fits [x.recv] (fun n hn => by simp at hn; omega))
      simp only [List.map_cons, List.map_nil, numPc, hrv, Int.toNat_natCast] at HX HPF
      have hk1 : k ≤ 1000 := by omega
      clear hbr2 hw2 hcells hc hx hz hok1 hok2 hok hrv hlen0
      go_upto_region 13 with fail
      rw [HW2.out]
      refine bkChanRegion _ _ x k HA2 hlen HR2 HC hk1 hfit1 _ (hid ?_)
      intro σ kv vv v3 w3 hA3 hb3
      have HB3 := hid (HB2.out.trans (hb3.mono HB2.out.size))
      have HA3 := hid hA3
      have HR3 := hid (HR2.out.below hb3 HR2.out.lt)
      have HR3' := hid (show Row w3 wr.heap.size 75 [.int .i64 x.state, .bool x.ordered, .int .i64 x.conn, .int .i64 x.ochan, .int .i64 x.send, .int .i64 (rv : Int), .int .i64 x.ack] by rw [← HRV.out]; exact HR3.out)
      clear hA3 hb3 hlen hfit1
      go_upto_region 14 with fail
      rw [HRV.out] at hfit2
      refine bkNextRegion _ _ x k rv (numsB [(rv : Int)]) HA3 hlen2 HR3' hk1 hrn HX HPF hfit2 _ (hid ?_)
      intro τ kv4 vv4 v4 w4 hA4 hb4
      have HB4 := hid (HB3.out.trans (hb4.mono HB3.out.size))
      have HA4 := hid hA4
      clear hA4 hb4 hlen2 hfit2
      go_wp2
      go_roundw
      case rel => exact ⟨k + 1, by omega, by go_num, hid ⟨HB4.out, by rw [HNX.out, HRV.out]; exact HA4.out⟩⟩
      case measure => simp [intOf]; omega
    · have hge : decide ((k : Int) < (n : Int)) = false := by simp; omega
      have HE := hid (show setAll (L0 ++ (l.zipIdx.take k).flatMap entCh) [] = setAll (L0 ++ l.zipIdx.flatMap entCh) [] by rw [List.take_of_length_le (by first | (rw [HN.out]; omega) | (rw [List.length_zipIdx, HN.out]; omega))])
      go_wp2
      apply hGo.out
      · exact HBW.out
      · rw [← HE.out]; exact HAC.out
end Go.Proofs.YtooemgkjkngpcaaGreatDoor
namespace Go.Proofs.YtooemgkjkngpcaaGreatDoor
open Go.RowKit

/-- a book that grows, where a map is written -/
theorem Acc.mapped {w w' : World} {b : Nat} {v : Value} {l : List Pr} (h : Acc w v l) (hg : w.grownBy w' (some b)) (hb : ∃ es clock, w.heap[b]? = some (.map es clock)) : Acc w' v l := by
  obtain ⟨es, clock, hb⟩ := hb
  have hcell : ∀ {p : Addr} {x : Value}, w.cell? p = some x → w'.cell? p = some x := fun {p x} hx => by
    by_cases e : p.block = b
    · simp [World.cell?, e, hb] at hx
    · have hlt : p.block < w.heap.size := by
        cases hq : w.heap[p.block]? with
        | none => simp [World.cell?, hq] at hx
        | some o => exact (Array.getElem?_eq_some_iff.1 hq).1
      rw [World.cell?_of_block (hg.block p.block hlt (by simpa using e))]
      exact hx
  have hby : ∀ {N : Nat} {sv : Value} {l : List (BitVec 8)}, Bytes w N sv l → Bytes w' N sv l := fun h => by
    rcases h with h | h | ⟨b, off, cap, h1, h2, h3⟩
    · exact .inl h
    · exact .inr (.inl h)
    · exact .inr (.inr ⟨b, off, cap, h1, h2, fun i hi => ⟨(h3 i hi).1, hcell (h3 i hi).2⟩⟩)
  obtain ⟨ps, h1, h2, h3, h4⟩ := h
  refine ⟨ps, ?_, fun q hq => ⟨(hby (h2 q hq).1).mono hg.size, (hby (h2 q hq).2).mono hg.size⟩, h3, h4⟩
  refine World.ownsRow.kept h1 hg ?_
  rcases h1.2 with ⟨rfl, _⟩ | ⟨g, c, cur, rfl, _, h8, _⟩
  · exact .inl rfl
  · refine .inr fun e => ?_
    obtain rfl : g = b := by simpa [Value.ownBlock] using e
    rw [hb] at h8
    cases h8
theorem mapped_of {w : World} {b n : Nat} {D : DataW Value} (h : w.ownsMap Tryz.prog 9 heldR b n D) : ∃ es clock, w.heap[b]? = some (.map es clock) := by
  obtain ⟨es, clock, hb, _⟩ := h
  exact ⟨es, clock, hb⟩
set_option maxRecDepth 1000000 in
set_option maxHeartbeats 8000000 in
theorem refBookC : StBookC 10 := by
  intro s v N w hv hN hfit hpow
  have HW1 := hid (show ∀ wx, Below w.heap.size w wx → _ from fun wx hx => refStWrongC s v N wx (hv.below (hx.mono hN)) (Nat.le_trans hN hx.size) hfit)
  obtain ⟨o1, c1, o2, c2, o3, c3, o4, c4, o5, c5, o6, c6, o7, c7, rfl, hm⟩ := hv.open
  have HM := hid hm
  obtain ⟨w0, hw0⟩ : ∃ w0, w.alloc (.cells #[.string s.name, .int .i64 s.height, .int .i64 s.time, .slice o1 s.clients.length c1, .slice o2 s.conns.length c2, .slice o3 s.chans.length c3, .slice o4 s.sent.length c4, .slice o5 s.got.length c5, .slice o6 s.acks.length c6, .slice o7 s.purses.length c7] 28) = w0 := ⟨_, rfl⟩
  have HB0 := hid (show Below w.heap.size w w0 by rw [← hw0]; exact (Below.refl _ _).alloc (Nat.le_refl _) _)
  have HR0 := hid (show Row w0 w.heap.size 28 [.string s.name, .int .i64 s.height, .int .i64 s.time, .slice o1 s.clients.length c1, .slice o2 s.conns.length c2, .slice o3 s.chans.length c3, .slice o4 s.sent.length c4, .slice o5 s.got.length c5, .slice o6 s.acks.length c6, .slice o7 s.purses.length c7] by rw [← hw0]; exact Row.new _ _ _)
  have k0 : w0.cell? ⟨w.heap.size, 0, none⟩ = some (.string s.name) := HR0.out.cell 0
  have k1 : w0.cell? ⟨w.heap.size, 1, none⟩ = some (.int .i64 s.height) := HR0.out.cell 1
  have k2 : w0.cell? ⟨w.heap.size, 2, none⟩ = some (.int .i64 s.time) := HR0.out.cell 2
  have k3 : w0.cell? ⟨w.heap.size, 3, none⟩ = some (.slice o1 s.clients.length c1) := HR0.out.cell 3
  have k4 : w0.cell? ⟨w.heap.size, 4, none⟩ = some (.slice o2 s.conns.length c2) := HR0.out.cell 4
  have k5 : w0.cell? ⟨w.heap.size, 5, none⟩ = some (.slice o3 s.chans.length c3) := HR0.out.cell 5
  have k6 : w0.cell? ⟨w.heap.size, 6, none⟩ = some (.slice o4 s.sent.length c4) := HR0.out.cell 6
  have k7 : w0.cell? ⟨w.heap.size, 7, none⟩ = some (.slice o5 s.got.length c5) := HR0.out.cell 7
  have k8 : w0.cell? ⟨w.heap.size, 8, none⟩ = some (.slice o6 s.acks.length c6) := HR0.out.cell 8
  have k9 : w0.cell? ⟨w.heap.size, 9, none⟩ = some (.slice o7 s.purses.length c7) := HR0.out.cell 9
  have HW0 := hid hw0
  clear hv hm hpow hfit hw0
  go_enter Tryz.func10, Tryz.ntmps10
  go_upto_region 1 with fail
  rw [HW0.out]
  go_wp2_with fail
  refine (HW1.out _ HB0.out).mono ?_
  rintro e w1 ⟨rfl, hb1⟩
  have HB1 := hid (HB0.out.trans (hb1.mono HB0.out.size))
  have HR1 := hid (HR0.out.below hb1 HR0.out.lt)
  clear hb1 k0 k1 k2 k3 k4 k5 k6 k7 k8 k9
  by_cases hz : wrongS s = 0
  · have HZ := hid hz
    have HS := hid (wrongS_right hz)
    have hmany := HS.out.many
    have HEO := hid (entries_ok HS.out)
    have HE1 := hid (show ∀ d ∈ s.conns.zipIdx.map entCn, DgOk d from fun d hd => HEO.out d (by unfold entries; exact List.mem_append_left _ hd))
    have HE2 := hid (show ∀ d ∈ s.chans.zipIdx.flatMap entCh, DgOk d from fun d hd => HEO.out d (by unfold entries; exact List.mem_append_right _ (List.mem_append_left _ hd)))
    have HE4 := hid (show ∀ d ∈ s.sent.map (entMk (lets wS)), DgOk d from fun d hd => HEO.out d (by unfold entries; exact List.mem_append_right _ (List.mem_append_right _ (List.mem_append_left _ hd))))
    have HE5 := hid (show ∀ d ∈ s.got.map (entMk (lets wG)), DgOk d from fun d hd => HEO.out d (by unfold entries; exact List.mem_append_right _ (List.mem_append_right _ (List.mem_append_right _ (List.mem_append_left _ hd)))))
    have HE6 := hid (show ∀ d ∈ s.acks.map (entMk (lets wA)), DgOk d from fun d hd => HEO.out d (by unfold entries; exact List.mem_append_right _ (List.mem_append_right _ (List.mem_append_right _ (List.mem_append_right _ hd)))))
    have hszw := HB0.out.size
    rw [HZ.out]
    clear hz
    have k4 : w1.cell? ⟨w.heap.size, 4, none⟩ = some (.slice o2 s.conns.length c2) := HR1.out.cell 4
    go_wp2_with fail
    refine bkConn_block s.conns o2 c2 N w1 (Nat.le_trans hN HB1.out.size) (hid (HM.out.below (HB1.out.mono hN)).conns) (by omega) (hid HS.out.conns) HE1 _ (hid ?_)
    intro u5 u6 u7 u22 u23 u24 u25 u26 u27 u28 u29 u30 u31 u32 u33 u34 u35 w2 hb2 hA2
    have HB2 := hid (HB1.out.trans (hb2.mono HB1.out.size))
    have HR2 := hid (HR1.out.below hb2 HR1.out.lt)
    have HA2 := hid hA2
    clear hb2 hA2 k4
    have k5 : w2.cell? ⟨w.heap.size, 5, none⟩ = some (.slice o3 s.chans.length c3) := HR2.out.cell 5
    go_wp2_with fail
    refine bkChan_block (s.conns.zipIdx.map entCn) _ s.chans o3 c3 N w2 (Nat.le_trans hN HB2.out.size) (hid (HM.out.below (HB2.out.mono hN)).chans) (by omega) (by rw [List.length_map, List.length_zipIdx]; omega) HA2 (hid HS.out.chans) HE2 _ (hid ?_)
    intro u5 u8 u9 u39 u40 u41 u42 u43 u44 u45 u46 u47 u48 u49 u50 u51 u52 u53 u54 u55 u56 u57 u58 u59 u60 u61 u62 u63 w3 hb3 hA3
    have HB3 := hid (HB2.out.trans (hb3.mono HB2.out.size))
    have HR3 := hid (HR2.out.below hb3 HR2.out.lt)
    have hszw : w.heap.size ≤ w3.heap.size := HB3.out.size
    have hlt3 : w.heap.size < w3.heap.size := HR3.out.lt
    clear hb3 k5
    obtain ⟨w4, hw4⟩ : ∃ w4, w3.alloc (.map #[] 0) = w4 := ⟨_, rfl⟩
    have hb4 : Below w3.heap.size w3 w4 := by rw [← hw4]; exact (Below.refl _ _).alloc (Nat.le_refl _) _
    have HB4 := hid (HB3.out.trans (hb4.mono HB3.out.size))
    have HR4 := hid (HR3.out.below hb4 HR3.out.lt)
    have HA4 := hid (hA3.below hb4)
    have HO4 := hid (show w4.ownsMap Tryz.prog 9 heldR w3.heap.size 0 (DataW.map [] : DataW Value) by rw [← hw4]; exact World.ownsMap_made _ _ _ _)
    have k6 : w4.cell? ⟨w.heap.size, 6, none⟩ = some (.slice o4 s.sent.length c4) := HR4.out.cell 6
    have hmk : (Instr.makeMap 109 none).run Tryz.prog w3 = .ok (.map (some w3.heap.size)) w4 := by rw [← hw4]; rfl
    clear hb4 hA3 hw4
    obtain ⟨w5, hrun5, hO5, hg5⟩ := HO4.out.update (key := .string ⟨#[115, 101, 110, 116]⟩) strLaw Tryz.underlying109 (by decide) keyS (show heldR (.slice o4 s.sent.length c4) = some (.held (.slice o4 s.sent.length c4), []) from rfl)
    have HO5 := hid hO5
    have HR5 := hid (HR4.out.grown hg5 (by simp; omega))
    have HB5 := hid (HB4.out.grown hg5 HB4.out.size (fun k hk => by obtain rfl := Option.some.inj hk; exact HB3.out.size))
    have HA5 := hid (HA4.out.mapped hg5 (mapped_of HO4.out))
    have k7 : w5.cell? ⟨w.heap.size, 7, none⟩ = some (.slice o5 s.got.length c5) := HR5.out.cell 7
    clear hO5 hg5
    obtain ⟨w6, hrun6, hO6, hg6⟩ := HO5.out.update (key := .string ⟨#[103, 111, 116]⟩) strLaw Tryz.underlying109 (by decide) keyG (show heldR (.slice o5 s.got.length c5) = some (.held (.slice o5 s.got.length c5), []) from rfl)
    have HO6 := hid hO6
    have HR6 := hid (HR5.out.grown hg6 (by simp; omega))
    have HB6 := hid (HB5.out.grown hg6 HB5.out.size (fun k hk => by obtain rfl := Option.some.inj hk; exact HB3.out.size))
    have HA6 := hid (HA5.out.mapped hg6 (mapped_of HO5.out))
    have k8 : w6.cell? ⟨w.heap.size, 8, none⟩ = some (.slice o6 s.acks.length c6) := HR6.out.cell 8
    clear hO6 hg6
    obtain ⟨w7, hrun7, hO7, hg7⟩ := HO6.out.update (key := .string ⟨#[97, 99, 107]⟩) strLaw Tryz.underlying109 (by decide) keyA (show heldR (.slice o6 s.acks.length c6) = some (.held (.slice o6 s.acks.length c6), []) from rfl)
    have HO7 := hid hO7
    have HR7 := hid (HR6.out.grown hg7 (by simp; omega))
    have HB7 := hid (HB6.out.grown hg7 HB6.out.size (fun k hk => by obtain rfl := Option.some.inj hk; exact HB3.out.size))
    have HA7 := hid (HA6.out.mapped hg7 (mapped_of HO6.out))
    have k9 : w7.cell? ⟨w.heap.size, 9, none⟩ = some (.slice o7 s.purses.length c7) := HR7.out.cell 9
    clear hO7 hg7
    obtain ⟨w8, hrun8, hrg8, hg8, hs8⟩ := HO7.out.range strLaw Tryz.underlying109
    have HRG8 := hid hrg8
    have HB8 := hid (HB7.out.grown hg8 HB7.out.size (fun k hk => by cases hk))
    have HA8 := hid (HA7.out.below (w' := w8) ⟨hg8.os, hg8.tape, hg8.output, hg8.size, fun k hk => hg8.block k hk (by simp)⟩)
    clear hrg8 hg8 hs8
    go_wp2_with fail
    refine bkMap_block s (s.conns.zipIdx.map entCn ++ s.chans.zipIdx.flatMap entCh) _ o4 o5 o6 c4 c5 c6 w3.heap.size w7.heap.size 3 N w.heap.size w8 hN HB8.out.size HB7.out.size HS (hid rfl) (by simp only [List.length_append, List.length_map, List.length_zipIdx, flat2_len]; omega) HRG8 HA8 (hid (HM.out.below (HB8.out.mono hN)).sent) (hid (HM.out.below (HB8.out.mono hN)).got) (hid (HM.out.below (HB8.out.mono hN)).acks) (hid HS.out.sent.1) (hid HS.out.got.1) (hid HS.out.acks.1) HE4 HE5 HE6 _ (hid ?_)
    intro u5 u10 u11 u13 u73 u74 u75 u76 u77 u78 u79 u80 u81 u82 u83 u84 u85 u86 u87 u88 u89 u90 u91 u92 u93 u94 u95 u96 w9 hb9 hA9
    have HB9 := hid (HB8.out.trans hb9)
    obtain ⟨oo, cc, rfl, -⟩ := hA9.pairs.shape
    have HP9 := hid (show Pairs w9 w9.heap.size (.slice oo (bookS s).length cc) (bookR s) by rw [bookR_ok HZ.out]; exact hA9.pairs)
    clear hb9 hA9
    generalize (bookS s).length = nn at *
    go_wp2
    go_ret2
    exact ⟨HB9.out, oo, nn, cc, by rw [HZ.out]; first | done | rfl, HP9.out⟩
  · have e0 : (wrongS s != 0) = true := by simpa using hz
    have HPR := hid (show Pairs w1 w1.heap.size (.slice none 0 0) (bookR s) by rw [bookR_no hz]; exact Pairs.nil _ _)
    clear hz
    generalize hzz : wrongS s = z at *
    have HZZ := hid hzz
    clear hzz
    go_wp2
    go_ret2
    exact ⟨HB1.out, none, 0, 0, by rw [HZZ.out]; first | done | rfl, HPR.out⟩
end Go.Proofs.YtooemgkjkngpcaaGreatDoor
