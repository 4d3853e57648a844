/-
  A transfer as bytes: package bank's Bytes and Parse.
-/
import Derived.Test.YtbjlfhabnjpdmaaGreatDoorlaBkTr
import Derived.Test.YtbjlfhabnjpdmaaGreatDoorlaBkSup
import Derived.Test.YtbjlfhabnjpdmaaGreatDoorlaStApp
import Derived.Test.YtbjlfhabnjpdmaaGreatDoorlaStMem
import Derived.Test.YtbjlfhabnjpdmaaGreatDoorlaSameB
import Derived.Test.YtbjlfhabnjpdmaaGreatDoorlaHdCheck
import Derived.Test.YtbjlfhabnjpdmaaGreatDoorlaStOne
import Derived.Test.YtbjlfhabnjpdmaaGreatDoorlaRegGo
import Derived.Test.YtbjlfhabnjpdmaaGreatDoorlaFrKit
import Derived.Deep.RegionHeld3
import Derived.Deep.RegionWith
namespace Go.Proofs.YtbjlfhabnjpdmaaGreatDoor
open Go.RowKit

def strB (l : List (BitVec 8)) : ByteArray := strOfNums (l.map b8)
def trPcs (t : Tr) : List Pc := [⟨2, 0, lets t.denom⟩, ⟨1, t.amount, []⟩, ⟨2, 0, lets t.sender⟩, ⟨2, 0, lets t.reader⟩]
/-- what a packet carries of a transfer -/
def bytesT (t : Tr) : List (BitVec 8) := match wrAll (trPcs t) with
  | .ok x => x
  | .error _ => []
def Tr.zero : Tr := ⟨⟨#[]⟩, 0, ⟨#[]⟩, ⟨#[]⟩⟩
def parsePs : List Pc → Except Int Tr
  | [p0, p1, p2, p3] => if p0.k = 2 ∧ p1.k = 1 ∧ p2.k = 2 ∧ p3.k = 2 then (if (wordB (strB p0.b) && (wordB (strB p2.b) && wordB (strB p3.b))) = false then .error 4 else if p1.n = 0 then .error 3 else .ok ⟨strB p0.b, p1.n, strB p2.b, strB p3.b⟩) else .error 2
  | _ => .error 2
def parseR (b : List (BitVec 8)) : Except Int Tr := match rdAll b with
  | .ok m => parsePs m
  | .error c => .error c
def parseE (b : List (BitVec 8)) : Int := match parseR b with
  | .ok _ => 0
  | .error c => c
def parseT (b : List (BitVec 8)) : Tr := match parseR b with
  | .ok t => t
  | .error _ => Tr.zero
theorem rdAll_ne {b : List (BitVec 8)} {c : Int} (h : rdAll b = .error c) : c ≠ 0 := by
  unfold rdAll at h
  split at h
  · injection h; omega
  · split at h
    · injection h; omega
    · split at h
      · injection h; omega
      · split at h
        · injection h; omega
        · cases h
theorem structPc : Struct 194 3 := ⟨⟨_, Tryz.underlying194, rfl⟩, by kernel_rfl⟩
theorem bytes_off {w w' : World} {N b f n c g : Nat} {l : List (BitVec 8)} (h : Bytes w N (.slice (some ⟨b, f, none⟩) n c) l) (hne : b ≠ g) (O : Only g w w') : Bytes w' N (.slice (some ⟨b, f, none⟩) n c) l := by
  rcases h with ⟨h, -⟩ | ⟨a, cap, h, rfl⟩ | ⟨b', off, cap, h, hc, hh⟩
  · injection h with h; cases h
  · exact .inr (.inl ⟨a, cap, h, rfl⟩)
  · injection h with h1 h2 h3
    obtain ⟨rfl, rfl⟩ : b = b' ∧ f = off := by simpa using h1
    subst h3
    refine .inr (.inr ⟨b, f, c, by rw [h2], hc, fun i hi => ⟨(hh i hi).1, ?_⟩⟩)
    rw [← (hh i hi).2]
    simp only [World.cell?]
    rw [O.same b hne]
set_option maxRecDepth 100000 in
set_option maxHeartbeats 4000000 in
theorem text_any (s : ByteArray) (w : World) : Calls Tryz.prog 181 #[.string s] w fun e w' => Below w.heap.size w w' ∧ ∃ o n c, e = .returned (.agg #[.int .i64 2, .int .u64 0, .slice o n c]) ∧ Bytes w' w'.heap.size (.slice o n c) (lets s) := by
  have HC := hid conv_text
  have HT := hid text_bytes
  have HTB := hid text_below
  go_enter Tryz.func181, Tryz.ntmps181
  go_upto_region 1 with fail
  refine fbox1 ?_
  intro w0 F hs
  have q := HC.out w0 s
  generalize hbw : Lib.bytesWorld w0 5 s = w1 at *
  have hb1 := HTB.out w0 s
  have ht1 := HT.out w0 s
  rw [hbw] at hb1 ht1
  have F1 := F.go hb1
  have HT1 := hid ht1
  have HB1 := hid hb1.size
  have HWW := hid (show w.heap.size < w0.heap.size from hs)
  generalize grownCap w0 s.size 0 5 = cap at *
  generalize s.size = sn at *
  clear hbw hb1 ht1 F HC HT HTB hs
  obtain ⟨c0, c1, c2, z0, z1, z2⟩ := F1.r0.three
  have F2 := ((F1.set1 0 0 (.int .i64 2) rfl).set1 0 1 (.int .u64 0) rfl).set1 0 2 (.slice (some ⟨w0.heap.size, 0, none⟩) sn cap) rfl
  have HF2 := hid F2
  clear F2 F1
  go_wp2
  have F2 := HF2.out
  refine ret_c Tryz.results181 rfl F2.r0 structPc rfl ⟨F2.b, _, _, _, rfl, ?_⟩
  have O := (((Only.refl w.heap.size w1).cell 0 (.int .i64 2)).cell 1 (.int .u64 0)).cell 2 (.slice (some ⟨w0.heap.size, 0, none⟩) sn cap)
  exact (bytes_off HT1.out (Nat.ne_of_gt HWW.out) O).mono (Nat.le_of_eq O.size.symm)
/-- a piece of bytes, wherever they lie -/
def PcB (b : List (BitVec 8)) (X : Value) (W : World) : Prop := ∃ o n c, X = .agg #[.int .i64 2, .int .u64 0, .slice o n c] ∧ Bytes W W.heap.size (.slice o n c) b
theorem PcB.stay (b : List (BitVec 8)) : Stay (PcB b) := fun _ _ _ hb ⟨o, n, c, e, h⟩ => ⟨o, n, c, e, (h.below hb).mono hb.size⟩
def PcsB (l : List Pc) (X : Value) (W : World) : Prop := Pieces W W.heap.size X l
theorem PcsB.stay (l : List Pc) : Stay (PcsB l) := fun _ _ _ hb h => Pieces.mono (Pieces.below h hb) hb.size
/-- what Write answers -/
def WrB (b : List (BitVec 8)) (X : Value) (W : World) : Prop := ∃ o n k c i, X = .tuple #[.slice o n k, .agg #[.int .i64 c, .int .i64 i]] ∧ Bytes W W.heap.size (.slice o n k) b
theorem WrB.stay (b : List (BitVec 8)) : Stay (WrB b) := fun _ _ _ hb ⟨o, n, k, c, i, e, h⟩ => ⟨o, n, k, c, i, e, (h.below hb).mono hb.size⟩
def ByB (b : List (BitVec 8)) (X : Value) (W : World) : Prop := ∃ o n c, X = .slice o n c ∧ Bytes W W.heap.size (.slice o n c) b
theorem ByB.stay (b : List (BitVec 8)) : Stay (ByB b) := fun _ _ _ hb ⟨o, n, c, e, h⟩ => ⟨o, n, c, e, (h.below hb).mono hb.size⟩
def FaB (X : Value) (_ : World) : Prop := ∃ c i, X = .agg #[.int .i64 c, .int .i64 i]
theorem FaB.stay : Stay FaB := fun _ _ _ _ h => h
def BoxB (base : Nat) (X : Value) (W : World) : Prop := ∃ k, X = .pointer (some ⟨k, 0, none⟩) ∧ base ≤ k ∧ Row W k 221 [.int .i64 0, .int .i64 0]
theorem BoxB.stay (base : Nat) : Stay (BoxB base) := fun _ _ _ hb ⟨k, e, h1, h⟩ => ⟨k, e, h1, h.below hb h.lt⟩
set_option maxRecDepth 100000 in
set_option maxHeartbeats 4000000 in
theorem bytesT_any (t : Tr) (w : World) (ht : t.fits) : Calls Tryz.prog 116 #[.agg #[.string t.denom, .int .u64 (t.amount : Int), .string t.sender, .string t.reader]] w fun e w' => Below w.heap.size w w' ∧ ∃ v, e = .returned v ∧ Bytes w' w'.heap.size v (bytesT t) := by
  have HT := hid (fun s W => (text_any s W).mono (R' := fun e W' => ∃ v, e = .returned v ∧ Below W.heap.size W W' ∧ PcB (lets s) v W') (by rintro e W' ⟨hb, o, n, c, rfl, h⟩; exact ⟨_, rfl, hb, o, n, c, rfl, h⟩))
  have HWR := hid (show ∀ v W, Pieces W W.heap.size v (trPcs t) → Calls Tryz.prog 180 #[v] W fun e W' => ∃ x, e = .returned x ∧ Below W.heap.size W W' ∧ WrB (bytesT t) x W' from fun v W hp => by
    refine (write_any (trPcs t) v W.heap.size W hp (Nat.le_refl _) (by simp [trPcs]) (by
      intro p hp
      obtain ⟨h1, h2, h3, h4⟩ := ht
      simp [trPcs] at hp
      rcases hp with rfl | rfl | rfl | rfl
      · exact ⟨by show 0 < 18446744073709551616; decide, by rw [lets_length]; exact h1⟩
      · exact ⟨h2, by simp⟩
      · exact ⟨by show 0 < 18446744073709551616; decide, by rw [lets_length]; exact h3⟩
      · exact ⟨by show 0 < 18446744073709551616; decide, by rw [lets_length]; exact h4⟩)).mono ?_
    rintro e W' ⟨hb, ⟨x, y, hx, rfl, ho⟩ | ⟨c, i, hx, rfl⟩⟩
    · obtain ⟨o, k, rfl, -⟩ := ho.shape
      exact ⟨_, rfl, hb, o, _, k, 0, 0, rfl, by unfold bytesT; rw [hx]; exact ho.bytes⟩
    · exact ⟨_, rfl, hb, none, 0, 0, c, (i : Int), rfl, by unfold bytesT; rw [hx]; exact .inl ⟨rfl, rfl⟩⟩)
  obtain ⟨d, a, s, r⟩ := t
  go_enter Tryz.func116, Tryz.ntmps116
  go_upto_region 1 with fail
  refine fbox1 ?_
  intro w0 F hs
  have HF := hid F
  clear F hs
  apply region_goT 19 (by kernel_rfl) (fun W hb => (HF.out.go hb).r0.k4) (by kernel_rfl)
  · intro σ; simp [slotAll]; exact rfl
  iterate 2 (apply RK.val rfl; · intro σ W hb hc ⟨hd, hu⟩; simp [Fresh, Region.binds] at hd hu; go_simp; exact rfl)
  apply RK.callG (PcB (lets d)) (PcB.stay _) rfl
  · intro σ W hb hc ⟨hd, hu⟩; simp [Fresh, Region.binds] at hd hu; exact ⟨_, _, by go_simp <;> first | exact rfl | exact ⟨rfl, rfl⟩, HT.out d W⟩
  iterate 5 (apply RK.val rfl; · intro σ W hb hc ⟨hd, hu⟩; simp [Fresh, Region.binds] at hd hu; go_simp; exact rfl)
  apply RK.callG (PcB (lets s)) (PcB.stay _) rfl
  · intro σ W hb hc ⟨hd, hu⟩; simp [Fresh, Region.binds] at hd hu; exact ⟨_, _, by go_simp <;> first | exact rfl | exact ⟨rfl, rfl⟩, HT.out s W⟩
  iterate 2 (apply RK.val rfl; · intro σ W hb hc ⟨hd, hu⟩; simp [Fresh, Region.binds] at hd hu; go_simp; exact rfl)
  apply RK.callG (PcB (lets r)) (PcB.stay _) rfl
  · intro σ W hb hc ⟨hd, hu⟩; simp [Fresh, Region.binds] at hd hu; exact ⟨_, _, by go_simp <;> first | exact rfl | exact ⟨rfl, rfl⟩, HT.out r W⟩
  apply RK.new (PcsB (trPcs ⟨d, a, s, r⟩)) (PcsB.stay _) rfl
  · intro σ W hb hc ⟨hd, hu⟩; simp [Fresh, Region.binds] at hd hu
    obtain ⟨⟨o1, n1, c1, e1, h1⟩, e2, ⟨o3, n3, c3, e3, h3⟩, ⟨o4, n4, c4, e4, h4⟩⟩ := hd
    have HH := hid (pieces_new W 194 [(⟨2, 0, lets d⟩, .slice o1 n1 c1), (⟨1, a, []⟩, .slice none 0 0), (⟨2, 0, lets s⟩, .slice o3 n3 c3), (⟨2, 0, lets r⟩, .slice o4 n4 c4)] (by
      intro q hq
      simp at hq
      rcases hq with rfl | rfl | rfl | rfl
      · exact h1
      · exact .inl ⟨rfl, rfl⟩
      · exact h3
      · exact h4))
    clear h1 h3 h4
    exact ⟨_, _, by go_simp <;> first | exact rfl | exact ⟨rfl, rfl⟩, (Below.refl _ _).alloc (Nat.le_refl _) _, HH.out⟩
  apply RK.callG (WrB (bytesT ⟨d, a, s, r⟩)) (WrB.stay _) rfl
  · intro σ W hb hc ⟨hd, hu⟩; simp [Fresh, Region.binds] at hd hu
    have HH := hid (HWR.out (σ 12) W hd.1)
    clear hd
    exact ⟨_, _, by go_simp <;> first | exact rfl | exact ⟨rfl, rfl⟩, HH.out⟩
  apply RK.new (WrB (bytesT ⟨d, a, s, r⟩)) (WrB.stay _) rfl
  · intro σ W hb hc ⟨hd, hu⟩; simp [Fresh, Region.binds] at hd hu
    have HH := hid hd
    clear hd
    exact ⟨σ 13, W, by go_simp, Below.refl _ _, HH.out⟩
  apply RK.new (ByB (bytesT ⟨d, a, s, r⟩)) (ByB.stay _) rfl
  · intro σ W hb hc ⟨hd, hu⟩; simp [Fresh, Region.binds] at hd hu
    obtain ⟨o, n, k, c, i, e, h⟩ := hd
    have HH := hid h
    clear h
    exact ⟨_, W, by go_simp <;> exact rfl, Below.refl _ _, o, n, k, rfl, HH.out⟩
  apply RK.new FaB FaB.stay rfl
  · intro σ W hb hc ⟨hd, hu⟩; simp [Fresh, Region.binds] at hd hu
    obtain ⟨o, n, k, c, i, e, h⟩ := hd
    clear h
    exact ⟨_, W, by go_simp <;> exact rfl, Below.refl _ _, c, i, rfl⟩
  apply RK.new (BoxB w.heap.size) (BoxB.stay _) rfl
  · intro σ W hb hc ⟨hd, hu⟩; simp [Fresh, Region.binds] at hd hu
    have hsz := (HF.out.go hb).b.size
    have HH := hid (Row.new W 221 [.int .i64 0, .int .i64 0])
    exact ⟨_, _, by go_simp <;> first | exact rfl | exact ⟨rfl, rfl⟩, (Below.refl _ _).alloc (Nat.le_refl _) _, W.heap.size, rfl, hsz, HH.out⟩
  apply RK.new (ByB (bytesT ⟨d, a, s, r⟩)) (ByB.stay _) rfl
  · intro σ W hb hc ⟨hd, hu⟩; simp [Fresh, Region.binds] at hd hu
    obtain ⟨o, n, k, e, h⟩ := hd.1
    have HH := hid h
    clear h
    exact ⟨_, W, by go_simp <;> exact rfl, Below.refl _ _, o, n, k, rfl, HH.out⟩
  intro σ W hb _
  simp only [AllF, List.nil_append, List.cons_append, Nat.reduceAdd]
  intro hF
  obtain ⟨-, -, -, -, -, -, -, -, -, -, -, -, -, -, -, -, ⟨c, i, e16⟩, ⟨k, e17, hk, hrk⟩, ⟨o, n, cc, e18, h18⟩, -⟩ := hF
  have HBB := hid (HF.out.go hb).b
  have HRK := hid hrk
  have HBY := hid h18
  obtain ⟨z0, z1, z2, z3⟩ := hrk.two
  clear hb hrk h18
  simp only [List.drop_succ_cons, List.drop_zero, e16, e17, e18]
  go_wp2
  go_ret
  have O := ((Only.refl k W).cell 0 (.int .i64 c)).cell 1 (.int .i64 i)
  exact ⟨O.down HBB.out hk, _, rfl, (HBY.out.only HRK.out rfl O.same).mono (Nat.le_of_eq O.size.symm)⟩
theorem structTr : Struct 49 4 := ⟨⟨_, Tryz.underlying49, rfl⟩, by kernel_rfl⟩
/-- pieces of these kinds -/
def kindsB (m : List Pc) (ks : List Int) : Bool := decide (m.map (·.k) = ks)
set_option maxRecDepth 100000 in
set_option maxHeartbeats 4000000 in
theorem kind_any (p : Pc) (k : Int) (vb : Value) (w : World) : Calls Tryz.prog 280 #[.agg #[.int .i64 p.k, .int .u64 (p.n : Int), vb], .int .i64 k] w fun e w' => e = .returned (.bool (p.k == k)) ∧ Below w.heap.size w w' := by
  go_enter Tryz.func280, Tryz.ntmps280
  go_upto_region 1 with fail
  refine fbox1 ?_
  intro w0 F hs
  obtain ⟨k0, k1, k2⟩ := F.r0.k3
  have HB := hid F.b
  clear F hs
  go_wp2
  go_ret
  exact ⟨rfl, HB.out⟩
set_option maxRecDepth 100000 in
set_option maxHeartbeats 4000000 in
theorem eqf_any (m : List Pc) (ks : List Int) (sv : Value) (N g n : Nat) (w : World) (lb : Array Value) (hlb : lb = #[]) (hN : N ≤ w.heap.size) (hm : Pieces w N sv m) (hr : Row w g 3 (ks.map (Value.int .i64))) (hn : ks.length = n) (hlen : m.length ≤ 1000) :
    Calls Tryz.prog 279 #[sv, .slice (some ⟨g, 0, none⟩) n n, .func (.func 280) #[] lb] w fun e w' => e = .returned (.bool (kindsB m ks)) ∧ Below w.heap.size w w' := by
  subst hlb
  obtain ⟨oa, ca, rfl, -⟩ := hm.shape
  have HM := hid hm
  have hgl := hr.lt
  have HR := hid hr
  have HK := hid kind_any
  have HKB := hid (show kindsB m ks = decide (m.map (·.k) = ks) from rfl)
  clear hm hr
  generalize hl : m.length = l at *
  have HLN := hid hl
  have HN := hid hn
  clear hl hn
  by_cases hne : l = n
  · subst hne
    go_enter Tryz.func279, Tryz.ntmps279
    go_wp2_with fail
    go_loopw [17] (fun s17 wr => ∃ k : Nat, k ≤ l ∧ s17 = .int .i64 k ∧ Hid (Below w.heap.size w wr) ∧ Hid ((m.map (·.k)).take k = ks.take k)) (fun s17 _ => l - (intOf s17).toNat)
    case atStart => exact ⟨0, Nat.zero_le _, rfl, Below.refl _ _, rfl⟩
    case round =>
      obtain ⟨k, hk, rfl, HW, HT⟩ := hrel
      by_cases hlt : k < l
      · obtain ⟨p, hp⟩ : ∃ p, m[k]? = some p := ⟨m[k]'(by rw [HLN.out]; exact hlt), List.getElem?_eq_getElem _⟩
        obtain ⟨q, hq⟩ : ∃ q, ks[k]? = some q := ⟨ks[k]'(by rw [HN.out]; exact hlt), List.getElem?_eq_getElem _⟩
        obtain ⟨b, f, rfl, hcc⟩ := HM.out.some (by omega)
        obtain ⟨hbN, vb, c0, c1, c2, hvb⟩ := hcc k p hp
        obtain ⟨ov, cv, rfl, -⟩ := hvb.shape
        clear hvb
        generalize p.b.length = pl at *
        replace c0 := (HW.out.cell (p := ⟨b, f + k * 3, none⟩) (by show b < _; omega)).trans c0
        replace c1 := (HW.out.cell (p := ⟨b, f + k * 3 + 1, none⟩) (by show b < _; omega)).trans c1
        replace c2 := (HW.out.cell (p := ⟨b, f + k * 3 + 2, none⟩) (by show b < _; omega)).trans c2
        have d0 : wr.cell? ⟨g, k, none⟩ = some (.int .i64 q) := by rw [HW.out.cell (p := ⟨g, k, none⟩) hgl, HR.out.cell, List.getElem?_map, hq]; rfl
        have hlt' : (k : Int) < (l : Int) := by omega
        have hsz := HW.out.size
        have hgs : g < wr.heap.size := by omega
        have HPQ := hid (And.intro hp hq)
        clear hp hq hcc
        go_upto_region 6 with fail
        refine boxK ?_
        intro w1 hr1 hb1
        have HB1 := hid (HW.out.trans (hb1.mono hsz))
        obtain ⟨k0, k1, k2⟩ := hr1.k3
        replace d0 := (hb1.cell (p := ⟨g, k, none⟩) hgs).trans d0
        clear c0 c1 c2 hr1 hb1 hgs
        go_wp2_with fail
        refine (HK.out p q _ w1).mono ?_
        rintro e w2 ⟨rfl, hb2⟩
        have HB2 := hid (HB1.out.trans (hb2.mono HB1.out.size))
        clear hb2 k0 k1 k2 d0
        by_cases hpq : p.k = q
        · have e1 : (p.k == q) = true := by simpa using hpq
          rw [e1]
          go_wp2_with fail
          refine ⟨⟨k + 1, by omega, by go_num, HB2.out, ?_⟩, by simp [intOf]; omega⟩
          rw [List.take_add_one, List.take_add_one, HT.out, List.getElem?_map, HPQ.out.1, HPQ.out.2, Option.map_some, hpq]
          exact hid rfl
        · have e1 : (p.k == q) = false := by simpa using hpq
          rw [e1]
          go_wp2
          go_ret
          refine ⟨?_, HB2.out⟩
          rw [HKB.out, decide_eq_false fun h => hpq ?_]
          · rfl
          · have := congrArg (fun x => x[k]?) h
            simp only [List.getElem?_map, HPQ.out.1, HPQ.out.2, Option.map_some] at this
            exact Option.some.inj this
      · obtain rfl : k = l := by omega
        have hlt' : decide ((k : Int) < (k : Int)) = false := by simp
        go_wp2
        go_ret
        refine ⟨?_, HW.out⟩
        have := HT.out
        rw [List.take_of_length_le (by rw [List.length_map, HLN.out]; exact Nat.le_refl _), List.take_of_length_le (by rw [HN.out]; exact Nat.le_refl _)] at this
        rw [HKB.out, decide_eq_true this]
        rfl
  · have e1 : ((l : Int) != (n : Int)) = true := by simp; omega
    have HF := hid (show kindsB m ks = false by rw [HKB.out, decide_eq_false fun h => hne (by rw [← HLN.out, ← HN.out, ← h, List.length_map])])
    go_enter Tryz.func279, Tryz.ntmps279
    go_wp2
    go_ret
    exact ⟨by rw [HF.out]; rfl, Below.refl _ _⟩
set_option maxRecDepth 100000 in
set_option maxHeartbeats 4000000 in
theorem areOf_any (m : List Pc) (ks : List Int) (sv : Value) (N g n : Nat) (w : World) (hN : N ≤ w.heap.size) (hm : Pieces w N sv m) (hr : Row w g 3 (ks.map (Value.int .i64))) (hn : ks.length = n) (hlen : m.length ≤ 1000) :
    Calls Tryz.prog 226 #[sv, .slice (some ⟨g, 0, none⟩) n n] w fun e w' => e = .returned (.bool (kindsB m ks)) ∧ Below w.heap.size w w' := by
  obtain ⟨oa, ca, rfl, -⟩ := hm.shape
  have HC := hid (eqf_any m ks _ N g n w #[] rfl hN hm hr hn hlen)
  clear hm hr hn hlen
  generalize m.length = l at *
  go_enter Tryz.func226, Tryz.ntmps226
  go_wp2_with fail
  refine HC.out.mono ?_
  rintro e w1 ⟨rfl, hb⟩
  have HB := hid hb
  clear hb
  go_wp2
  go_ret
  exact ⟨rfl, HB.out⟩
end Go.Proofs.YtbjlfhabnjpdmaaGreatDoor
