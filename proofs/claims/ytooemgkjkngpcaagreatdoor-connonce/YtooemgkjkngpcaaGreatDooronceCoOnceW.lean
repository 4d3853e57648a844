/-
  ConnOnce returns true, whatever a state, numbers and what is shown read as.
-/
import Derived.Test.YtooemgkjkngpcaaGreatDooronceCoOnceL1
import Derived.Test.YtooemgkjkngpcaaGreatDooronceCoOnceM
import Derived.Test.YtooemgkjkngpcaaGreatDooronceCoOnceL2
import Derived.Test.YtooemgkjkngpcaaGreatDooronceCoOnceO
import Derived.Test.YtooemgkjkngpcaaGreatDooronceCoAlive
import Derived.Test.YtooemgkjkngpcaaGreatDooronceCoTry
import Derived.Test.YtooemgkjkngpcaaGreatDooronceCoAck
import Derived.Test.YtooemgkjkngpcaaGreatDooronceCoConf
namespace Go.Proofs.YtooemgkjkngpcaaGreatDoor
open Go.RowKit

set_option maxRecDepth 1000000 in
set_option maxHeartbeats 8000000 in
theorem onceTry {sl0 sl5 sl7 sl8 sl9 sl10 sl12 sl14 sl15 sl16 sl17 sl18 sl19 sl20 sl21 sl22 sl23 sl24 sl25 sl26 sl27 sl28 sl29 sl30 sl31 sl32 sl33 sl34 sl35 sl36 sl37 sl38 sl39 sl40 sl41 sl42 sl43 sl44 sl45 sl46 sl47 sl48 sl49 sl50 sl51 sl52 sl53 sl54 sl55 sl56 sl57 sl58 sl59 sl60 sl61 sl62 sl63 sl64 sl65 sl66 sl67 sl68 sl69 sl70 sl71 sl72 sl73 sl74 sl75 sl76 sl77 sl78 sl79 sl80 sl81 sl82 sl83 sl84 sl85 sl86 sl87 sl88 sl89 sl90 sl91 sl92 sl93 sl94 sl95 sl96 sl97 sl98 sl99 sl100 sl101 sl102 sl103 sl104 sl105 sl106 sl107 sl108 sl109 sl110 sl111 sl112 sl113 sl114 sl115 sl116 sl117 sl118 sl119 sl120 sl121 sl122 sl123 sl124 sl125 sl126 sl127 sl128 sl129 sl130 sl131 sl132 sl133 sl134 sl135 sl136 sl137 sl138 sl139 : Value} {gs gh N base : Nat} {w1 : World} (s t : St) (n m i c o q : Int) (ss0 ss1 ss2 ss3 ss5 ss6 ss7 ss8 ss9 hs0 hs1 hs2 hs3 hs4 hs5 hs6 hs7 hs8 hs9 hs10 hs11 hs12 hs13 hs14 hs15 hs16 hs17 : Value) (o2 : Option Addr) (c2 : Nat) (v : Value) (l : List St) (HA : Hid (Row w1 gs 28 [ss0, ss1, ss2, ss3, .slice o2 s.conns.length c2, ss5, ss6, ss7, ss8, ss9])) (HH : Hid (Row w1 gh 46 [hs0, hs1, hs2, hs3, hs4, hs5, hs6, hs7, hs8, hs9, hs10, hs11, hs12, hs13, hs14, hs15, hs16, hs17])) (hC : Hid (Calls Tryz.prog 18 #[.agg #[ss0, ss1, ss2, ss3, .slice o2 s.conns.length c2, ss5, ss6, ss7, ss8, ss9], .int .i64 c, .int .i64 o, .int .i64 q, .agg #[hs0, hs1, hs2, hs3, hs4, hs5, hs6, hs7, hs8, hs9, hs10, hs11, hs12, hs13, hs14, hs15, hs16, hs17]] w1 fun e w' => Below w1.heap.size w1 w' ∧ ∃ v', e = .returned (.tuple #[v', .int .i64 m, .int .i64 n]) ∧ HoldsS N w1.heap.size w' v' t)) (hT : Hid (n = 0 → Follows s i t ∧ m = (s.conns.length : Int))) (HAF : Hid (After w1 base v l)) (HFO : Hid (∀ t ∈ l, Follows s i t)) (hl : l.length ≤ 1000) (hN : N ≤ base) (hbase : base ≤ w1.heap.size) (Q : Exit → Act → World → Prop)
    (hGo : Hid (∀ (u14 u15 u16 u30 u31 u32 u33 u34 u35 u36 u37 u38 u39 u40 u41 u42 u43 u44 u45 u46 u47 u48 u49 u50 v' : Value) (l' : List St) (w' : World), Below base w1 w' → After w' base v' l' → (∀ t ∈ l', Follows s i t) → l'.length ≤ l.length + 1 → Q .normal ⟨#[sl0, .int .i64 i, .int .i64 c, .int .i64 o, .int .i64 q, sl5, .pointer (some ⟨gs, 0, none⟩), sl7, sl8, sl9, sl10, .pointer (some ⟨gh, 0, none⟩), sl12, v', u14, u15, u16, sl17, sl18, sl19, sl20, sl21, sl22, sl23, sl24, sl25, sl26, sl27, sl28, sl29, u30, u31, u32, u33, u34, u35, u36, u37, u38, u39, u40, u41, u42, u43, u44, u45, u46, u47, u48, u49, u50, sl51, sl52, sl53, sl54, sl55, sl56, sl57, sl58, sl59, sl60, sl61, sl62, sl63, sl64, sl65, sl66, sl67, sl68, sl69, sl70, sl71, sl72, sl73, sl74, sl75, sl76, sl77, sl78, sl79, sl80, sl81, sl82, sl83, sl84, sl85, sl86, sl87, sl88, sl89, sl90, sl91, sl92, sl93, sl94, sl95, sl96, sl97, sl98, sl99, sl100, sl101, sl102, sl103, sl104, sl105, sl106, sl107, sl108, sl109, sl110, sl111, sl112, sl113, sl114, sl115, sl116, sl117, sl118, sl119, sl120, sl121, sl122, sl123, sl124, sl125, sl126, sl127, sl128, sl129, sl130, sl131, sl132, sl133, sl134, sl135, sl136, sl137, sl138, sl139], []⟩ w')) :
    Code.wp Tryz.prog (.region 4 ((Tryz.f6.body.bind (regOf 4)).getD #[]) false) (Exit.then (Code.wp Tryz.prog ((Tryz.f6.body.bind (restOf 4)).getD .skip) Q) Q) ⟨#[sl0, .int .i64 i, .int .i64 c, .int .i64 o, .int .i64 q, sl5, .pointer (some ⟨gs, 0, none⟩), sl7, sl8, sl9, sl10, .pointer (some ⟨gh, 0, none⟩), sl12, v, sl14, sl15, sl16, sl17, sl18, sl19, sl20, sl21, sl22, sl23, sl24, sl25, sl26, sl27, sl28, sl29, sl30, sl31, sl32, sl33, sl34, sl35, sl36, sl37, sl38, sl39, sl40, sl41, sl42, sl43, sl44, sl45, sl46, sl47, sl48, sl49, sl50, sl51, sl52, sl53, sl54, sl55, sl56, sl57, sl58, sl59, sl60, sl61, sl62, sl63, sl64, sl65, sl66, sl67, sl68, sl69, sl70, sl71, sl72, sl73, sl74, sl75, sl76, sl77, sl78, sl79, sl80, sl81, sl82, sl83, sl84, sl85, sl86, sl87, sl88, sl89, sl90, sl91, sl92, sl93, sl94, sl95, sl96, sl97, sl98, sl99, sl100, sl101, sl102, sl103, sl104, sl105, sl106, sl107, sl108, sl109, sl110, sl111, sl112, sl113, sl114, sl115, sl116, sl117, sl118, sl119, sl120, sl121, sl122, sl123, sl124, sl125, sl126, sl127, sl128, sl129, sl130, sl131, sl132, sl133, sl134, sl135, sl136, sl137, sl138, sl139], []⟩ w1 := by
  refine onceL4 t n m i c o q _ _ _ _ _ _ _ _ _ _ _ _ _ _ _ _ _ _ _ _ _ _ _ _ _ _ _ _ HA HH hC _ (hid ?_)
  intro x30 x31 x32 x33 x34 x35 x36 x37 x38 x39 gp pp0 pp1 pp2 pp3 pp4 pp5 pp6 pp7 pp8 pp9 w2 hb2 hg2 hr2 ho2 hh2
  obtain ⟨ao0, ac0, ao1, ac1, ao2, ac2, ao3, ac3, ao4, ac4, ao5, ac5, ao6, ac6, hag, -⟩ := hh2.now.open
  simp only [Value.agg.injEq, Array.mk.injEq, List.cons.injEq, and_true] at hag
  obtain ⟨rfl, rfl, rfl, rfl, rfl, rfl, rfl, rfl, rfl, rfl⟩ := hag
  have HFV := hid (show ∀ b, (fun b => (b < N ∨ w1.heap.size ≤ b) ∧ b < gp) b → v.ownBlock ≠ some b from fun b hb e => by
    have h1 := HAF.out.own b e
    have h2 := hb.1
    omega)
  have HA2 := hid (HA.out.below hb2 HA.out.lt)
  have HAF2 := hid (HAF.out.below hb2)
  have HB2 := hid (hb2.mono hbase)
  have HR2 := hid hr2
  have HF2 := hid hh2
  have hsz2 : w1.heap.size ≤ w2.heap.size := hb2.size
  clear hb2 hg2 hr2 ho2 hh2
  by_cases h0 : n = 0
  · subst h0
    have HTN := hid (hT.out rfl)
    obtain rfl : m = (s.conns.length : Int) := HTN.out.2
    have HFN := hid HTN.out.1
    have k4 : w2.cell? ⟨gs, 4, none⟩ = some (.slice o2 s.conns.length c2) := HA2.out.cell 4
    have em : ((s.conns.length : Int) != (s.conns.length : Int)) = false := by simp
    clear HTN
    change Code.wp _ _ _ _ _
    conv => arg 2; whnf
    go_upto_region 8 with fail
    refine onceM8 t ao0 ao1 ao2 ao3 ao4 ao5 ao6 ac0 ac1 ac2 ac3 ac4 ac5 ac6 v l (fun b => (b < N ∨ w1.heap.size ≤ b) ∧ b < gp) HR2 HAF2 HF2 HFV hl (by omega) _ (hid ?_)
    intro y47 y48 y49 y50 v3 w3 ha3 hb3
    have HA3 := hid ha3
    have HB3 := hid (HB2.out.trans hb3)
    clear ha3 hb3
    go_wp2
    apply hGo.out
    · exact HB3.out
    · exact HA3.out
    · intro x hx
      rcases List.mem_append.1 hx with hx | hx
      · exact HFO.out x hx
      · simp at hx
        rw [hx]
        exact HFN.out
    · simp
  · have e0 : (n == 0) = false := by simpa using h0
    have e1 : decide (n = 0) = false := by simpa using h0
    change Code.wp _ _ _ _ _
    conv => arg 2; whnf
    go_wp2
    apply hGo.out
    · exact HB2.out
    · exact HAF2.out
    · exact HFO.out
    · omega

set_option maxRecDepth 1000000 in
set_option maxHeartbeats 8000000 in
theorem onceInit {sl0 sl5 sl7 sl8 sl9 sl10 sl12 sl14 sl15 sl16 sl17 sl18 sl19 sl20 sl21 sl22 sl23 sl24 sl25 sl26 sl27 sl28 sl29 sl30 sl31 sl32 sl33 sl34 sl35 sl36 sl37 sl38 sl39 sl40 sl41 sl42 sl43 sl44 sl45 sl46 sl47 sl48 sl49 sl50 sl51 sl52 sl53 sl54 sl55 sl56 sl57 sl58 sl59 sl60 sl61 sl62 sl63 sl64 sl65 sl66 sl67 sl68 sl69 sl70 sl71 sl72 sl73 sl74 sl75 sl76 sl77 sl78 sl79 sl80 sl81 sl82 sl83 sl84 sl85 sl86 sl87 sl88 sl89 sl90 sl91 sl92 sl93 sl94 sl95 sl96 sl97 sl98 sl99 sl100 sl101 sl102 sl103 sl104 sl105 sl106 sl107 sl108 sl109 sl110 sl111 sl112 sl113 sl114 sl115 sl116 sl117 sl118 sl119 sl120 sl121 sl122 sl123 sl124 sl125 sl126 sl127 sl128 sl129 sl130 sl131 sl132 sl133 sl134 sl135 sl136 sl137 sl138 sl139 : Value} {gs gh N base : Nat} {w1 : World} (s t : St) (n m i c o q : Int) (ss0 ss1 ss2 ss3 ss5 ss6 ss7 ss8 ss9 : Value) (o2 : Option Addr) (c2 : Nat) (v : Value) (l : List St) (HA : Hid (Row w1 gs 28 [ss0, ss1, ss2, ss3, .slice o2 s.conns.length c2, ss5, ss6, ss7, ss8, ss9])) (hC : Hid (Calls Tryz.prog 15 #[.agg #[ss0, ss1, ss2, ss3, .slice o2 s.conns.length c2, ss5, ss6, ss7, ss8, ss9], .int .i64 c, .int .i64 o] w1 fun e w' => Below w1.heap.size w1 w' ∧ ∃ v', e = .returned (.tuple #[v', .int .i64 m, .int .i64 n]) ∧ HoldsS N w1.heap.size w' v' t)) (hT : Hid (n = 0 → Follows s i t ∧ m = (s.conns.length : Int))) (HAF : Hid (After w1 base v l)) (HFO : Hid (∀ t ∈ l, Follows s i t)) (hl : l.length ≤ 1000) (hN : N ≤ base) (hbase : base ≤ w1.heap.size) (Q : Exit → Act → World → Prop)
    (hGo : Hid (∀ (u17 u18 u19 u51 u52 u53 u54 u55 u56 u57 u58 u59 u60 u61 u62 u63 u64 u65 u66 u67 u68 u69 v' : Value) (l' : List St) (w' : World), Below base w1 w' → After w' base v' l' → (∀ t ∈ l', Follows s i t) → l'.length ≤ l.length + 1 → Q .normal ⟨#[sl0, .int .i64 i, .int .i64 c, .int .i64 o, .int .i64 q, sl5, .pointer (some ⟨gs, 0, none⟩), sl7, sl8, sl9, sl10, .pointer (some ⟨gh, 0, none⟩), sl12, v', sl14, sl15, sl16, u17, u18, u19, sl20, sl21, sl22, sl23, sl24, sl25, sl26, sl27, sl28, sl29, sl30, sl31, sl32, sl33, sl34, sl35, sl36, sl37, sl38, sl39, sl40, sl41, sl42, sl43, sl44, sl45, sl46, sl47, sl48, sl49, sl50, u51, u52, u53, u54, u55, u56, u57, u58, u59, u60, u61, u62, u63, u64, u65, u66, u67, u68, u69, sl70, sl71, sl72, sl73, sl74, sl75, sl76, sl77, sl78, sl79, sl80, sl81, sl82, sl83, sl84, sl85, sl86, sl87, sl88, sl89, sl90, sl91, sl92, sl93, sl94, sl95, sl96, sl97, sl98, sl99, sl100, sl101, sl102, sl103, sl104, sl105, sl106, sl107, sl108, sl109, sl110, sl111, sl112, sl113, sl114, sl115, sl116, sl117, sl118, sl119, sl120, sl121, sl122, sl123, sl124, sl125, sl126, sl127, sl128, sl129, sl130, sl131, sl132, sl133, sl134, sl135, sl136, sl137, sl138, sl139], []⟩ w')) :
    Code.wp Tryz.prog (.region 9 ((Tryz.f6.body.bind (regOf 9)).getD #[]) false) (Exit.then (Code.wp Tryz.prog ((Tryz.f6.body.bind (restOf 9)).getD .skip) Q) Q) ⟨#[sl0, .int .i64 i, .int .i64 c, .int .i64 o, .int .i64 q, sl5, .pointer (some ⟨gs, 0, none⟩), sl7, sl8, sl9, sl10, .pointer (some ⟨gh, 0, none⟩), sl12, v, sl14, sl15, sl16, sl17, sl18, sl19, sl20, sl21, sl22, sl23, sl24, sl25, sl26, sl27, sl28, sl29, sl30, sl31, sl32, sl33, sl34, sl35, sl36, sl37, sl38, sl39, sl40, sl41, sl42, sl43, sl44, sl45, sl46, sl47, sl48, sl49, sl50, sl51, sl52, sl53, sl54, sl55, sl56, sl57, sl58, sl59, sl60, sl61, sl62, sl63, sl64, sl65, sl66, sl67, sl68, sl69, sl70, sl71, sl72, sl73, sl74, sl75, sl76, sl77, sl78, sl79, sl80, sl81, sl82, sl83, sl84, sl85, sl86, sl87, sl88, sl89, sl90, sl91, sl92, sl93, sl94, sl95, sl96, sl97, sl98, sl99, sl100, sl101, sl102, sl103, sl104, sl105, sl106, sl107, sl108, sl109, sl110, sl111, sl112, sl113, sl114, sl115, sl116, sl117, sl118, sl119, sl120, sl121, sl122, sl123, sl124, sl125, sl126, sl127, sl128, sl129, sl130, sl131, sl132, sl133, sl134, sl135, sl136, sl137, sl138, sl139], []⟩ w1 := by
  refine onceL9 t n m i c o q _ _ _ _ _ _ _ _ _ _ HA hC _ (hid ?_)
  intro x51 x52 x53 x54 x55 x56 x57 x58 gp pp0 pp1 pp2 pp3 pp4 pp5 pp6 pp7 pp8 pp9 w2 hb2 hg2 hr2 ho2 hh2
  obtain ⟨ao0, ac0, ao1, ac1, ao2, ac2, ao3, ac3, ao4, ac4, ao5, ac5, ao6, ac6, hag, -⟩ := hh2.now.open
  simp only [Value.agg.injEq, Array.mk.injEq, List.cons.injEq, and_true] at hag
  obtain ⟨rfl, rfl, rfl, rfl, rfl, rfl, rfl, rfl, rfl, rfl⟩ := hag
  have HFV := hid (show ∀ b, (fun b => (b < N ∨ w1.heap.size ≤ b) ∧ b < gp) b → v.ownBlock ≠ some b from fun b hb e => by
    have h1 := HAF.out.own b e
    have h2 := hb.1
    omega)
  have HA2 := hid (HA.out.below hb2 HA.out.lt)
  have HAF2 := hid (HAF.out.below hb2)
  have HB2 := hid (hb2.mono hbase)
  have HR2 := hid hr2
  have HF2 := hid hh2
  have hsz2 : w1.heap.size ≤ w2.heap.size := hb2.size
  clear hb2 hg2 hr2 ho2 hh2
  by_cases h0 : n = 0
  · subst h0
    have HTN := hid (hT.out rfl)
    obtain rfl : m = (s.conns.length : Int) := HTN.out.2
    have HFN := hid HTN.out.1
    have k4 : w2.cell? ⟨gs, 4, none⟩ = some (.slice o2 s.conns.length c2) := HA2.out.cell 4
    have em : ((s.conns.length : Int) != (s.conns.length : Int)) = false := by simp
    clear HTN
    change Code.wp _ _ _ _ _
    conv => arg 2; whnf
    go_upto_region 13 with fail
    refine onceM13 t ao0 ao1 ao2 ao3 ao4 ao5 ao6 ac0 ac1 ac2 ac3 ac4 ac5 ac6 v l (fun b => (b < N ∨ w1.heap.size ≤ b) ∧ b < gp) HR2 HAF2 HF2 HFV hl (by omega) _ (hid ?_)
    intro y66 y67 y68 y69 v3 w3 ha3 hb3
    have HA3 := hid ha3
    have HB3 := hid (HB2.out.trans hb3)
    clear ha3 hb3
    go_wp2
    apply hGo.out
    · exact HB3.out
    · exact HA3.out
    · intro x hx
      rcases List.mem_append.1 hx with hx | hx
      · exact HFO.out x hx
      · simp at hx
        rw [hx]
        exact HFN.out
    · simp
  · have e0 : (n == 0) = false := by simpa using h0
    have e1 : decide (n = 0) = false := by simpa using h0
    change Code.wp _ _ _ _ _
    conv => arg 2; whnf
    go_wp2
    apply hGo.out
    · exact HB2.out
    · exact HAF2.out
    · exact HFO.out
    · omega
end Go.Proofs.YtooemgkjkngpcaaGreatDoor
namespace Go.Proofs.YtooemgkjkngpcaaGreatDoor
open Go.RowKit

set_option maxRecDepth 1000000 in
set_option maxHeartbeats 8000000 in
theorem onceAck {sl0 sl5 sl7 sl8 sl9 sl10 sl12 sl14 sl15 sl16 sl17 sl18 sl19 sl20 sl21 sl22 sl23 sl24 sl25 sl26 sl27 sl28 sl29 sl30 sl31 sl32 sl33 sl34 sl35 sl36 sl37 sl38 sl39 sl40 sl41 sl42 sl43 sl44 sl45 sl46 sl47 sl48 sl49 sl50 sl51 sl52 sl53 sl54 sl55 sl56 sl57 sl58 sl59 sl60 sl61 sl62 sl63 sl64 sl65 sl66 sl67 sl68 sl69 sl70 sl71 sl72 sl73 sl74 sl75 sl76 sl77 sl78 sl79 sl80 sl81 sl82 sl83 sl84 sl85 sl86 sl87 sl88 sl89 sl90 sl91 sl92 sl93 sl94 sl95 sl96 sl97 sl98 sl99 sl100 sl101 sl102 sl103 sl104 sl105 sl106 sl107 sl108 sl109 sl110 sl111 sl112 sl113 sl114 sl115 sl116 sl117 sl118 sl119 sl120 sl121 sl122 sl123 sl124 sl125 sl126 sl127 sl128 sl129 sl130 sl131 sl132 sl133 sl134 sl135 sl136 sl137 sl138 sl139 : Value} {gs gh N base : Nat} {w1 : World} (s t : St) (n i c o q : Int) (ss0 ss1 ss2 ss3 ss5 ss6 ss7 ss8 ss9 hs0 hs1 hs2 hs3 hs4 hs5 hs6 hs7 hs8 hs9 hs10 hs11 hs12 hs13 hs14 hs15 hs16 hs17 : Value) (o2 : Option Addr) (c2 : Nat) (v : Value) (l : List St) (HA : Hid (Row w1 gs 28 [ss0, ss1, ss2, ss3, .slice o2 s.conns.length c2, ss5, ss6, ss7, ss8, ss9])) (HH : Hid (Row w1 gh 46 [hs0, hs1, hs2, hs3, hs4, hs5, hs6, hs7, hs8, hs9, hs10, hs11, hs12, hs13, hs14, hs15, hs16, hs17])) (hC : Hid (Calls Tryz.prog 19 #[.agg #[ss0, ss1, ss2, ss3, .slice o2 s.conns.length c2, ss5, ss6, ss7, ss8, ss9], .int .i64 i, .int .i64 q, .agg #[hs0, hs1, hs2, hs3, hs4, hs5, hs6, hs7, hs8, hs9, hs10, hs11, hs12, hs13, hs14, hs15, hs16, hs17]] w1 fun e w' => Below w1.heap.size w1 w' ∧ ∃ v', e = .returned (.tuple #[v', .int .i64 n]) ∧ HoldsS N w1.heap.size w' v' t)) (hT : Hid (n = 0 → Follows s i t)) (HAF : Hid (After w1 base v l)) (HFO : Hid (∀ t ∈ l, Follows s i t)) (hl : l.length ≤ 1000) (hN : N ≤ base) (hbase : base ≤ w1.heap.size) (Q : Exit → Act → World → Prop)
    (hGo : Hid (∀ (u20 u21 u70 u71 u72 u73 u74 u75 u76 u77 u78 u79 u80 u81 u82 u83 v' : Value) (l' : List St) (w' : World), Below base w1 w' → After w' base v' l' → (∀ t ∈ l', Follows s i t) → l'.length ≤ l.length + 1 → Q .normal ⟨#[sl0, .int .i64 i, .int .i64 c, .int .i64 o, .int .i64 q, sl5, .pointer (some ⟨gs, 0, none⟩), sl7, sl8, sl9, sl10, .pointer (some ⟨gh, 0, none⟩), sl12, v', sl14, sl15, sl16, sl17, sl18, sl19, u20, u21, sl22, sl23, sl24, sl25, sl26, sl27, sl28, sl29, sl30, sl31, sl32, sl33, sl34, sl35, sl36, sl37, sl38, sl39, sl40, sl41, sl42, sl43, sl44, sl45, sl46, sl47, sl48, sl49, sl50, sl51, sl52, sl53, sl54, sl55, sl56, sl57, sl58, sl59, sl60, sl61, sl62, sl63, sl64, sl65, sl66, sl67, sl68, sl69, u70, u71, u72, u73, u74, u75, u76, u77, u78, u79, u80, u81, u82, u83, sl84, sl85, sl86, sl87, sl88, sl89, sl90, sl91, sl92, sl93, sl94, sl95, sl96, sl97, sl98, sl99, sl100, sl101, sl102, sl103, sl104, sl105, sl106, sl107, sl108, sl109, sl110, sl111, sl112, sl113, sl114, sl115, sl116, sl117, sl118, sl119, sl120, sl121, sl122, sl123, sl124, sl125, sl126, sl127, sl128, sl129, sl130, sl131, sl132, sl133, sl134, sl135, sl136, sl137, sl138, sl139], []⟩ w')) :
    Code.wp Tryz.prog (.region 14 ((Tryz.f6.body.bind (regOf 14)).getD #[]) false) (Exit.then (Code.wp Tryz.prog ((Tryz.f6.body.bind (restOf 14)).getD .skip) Q) Q) ⟨#[sl0, .int .i64 i, .int .i64 c, .int .i64 o, .int .i64 q, sl5, .pointer (some ⟨gs, 0, none⟩), sl7, sl8, sl9, sl10, .pointer (some ⟨gh, 0, none⟩), sl12, v, sl14, sl15, sl16, sl17, sl18, sl19, sl20, sl21, sl22, sl23, sl24, sl25, sl26, sl27, sl28, sl29, sl30, sl31, sl32, sl33, sl34, sl35, sl36, sl37, sl38, sl39, sl40, sl41, sl42, sl43, sl44, sl45, sl46, sl47, sl48, sl49, sl50, sl51, sl52, sl53, sl54, sl55, sl56, sl57, sl58, sl59, sl60, sl61, sl62, sl63, sl64, sl65, sl66, sl67, sl68, sl69, sl70, sl71, sl72, sl73, sl74, sl75, sl76, sl77, sl78, sl79, sl80, sl81, sl82, sl83, sl84, sl85, sl86, sl87, sl88, sl89, sl90, sl91, sl92, sl93, sl94, sl95, sl96, sl97, sl98, sl99, sl100, sl101, sl102, sl103, sl104, sl105, sl106, sl107, sl108, sl109, sl110, sl111, sl112, sl113, sl114, sl115, sl116, sl117, sl118, sl119, sl120, sl121, sl122, sl123, sl124, sl125, sl126, sl127, sl128, sl129, sl130, sl131, sl132, sl133, sl134, sl135, sl136, sl137, sl138, sl139], []⟩ w1 := by
  refine onceL14 t n i c o q _ _ _ _ _ _ _ _ _ _ _ _ _ _ _ _ _ _ _ _ _ _ _ _ _ _ _ _ HA HH hC _ (hid ?_)
  intro x70 x71 x72 x73 x74 x75 x76 x77 gp pp0 pp1 pp2 pp3 pp4 pp5 pp6 pp7 pp8 pp9 w2 hb2 hg2 hr2 ho2 hh2
  obtain ⟨ao0, ac0, ao1, ac1, ao2, ac2, ao3, ac3, ao4, ac4, ao5, ac5, ao6, ac6, hag, -⟩ := hh2.now.open
  simp only [Value.agg.injEq, Array.mk.injEq, List.cons.injEq, and_true] at hag
  obtain ⟨rfl, rfl, rfl, rfl, rfl, rfl, rfl, rfl, rfl, rfl⟩ := hag
  have HFV := hid (show ∀ b, (fun b => (b < N ∨ w1.heap.size ≤ b) ∧ b < gp) b → v.ownBlock ≠ some b from fun b hb e => by
    have h1 := HAF.out.own b e
    have h2 := hb.1
    omega)
  have HA2 := hid (HA.out.below hb2 HA.out.lt)
  have HAF2 := hid (HAF.out.below hb2)
  have HB2 := hid (hb2.mono hbase)
  have HR2 := hid hr2
  have HF2 := hid hh2
  have hsz2 : w1.heap.size ≤ w2.heap.size := hb2.size
  clear hb2 hg2 hr2 ho2 hh2
  by_cases h0 : n = 0
  · subst h0
    have HTN := hid (hT.out rfl)
    have HFN := hid HTN.out
    clear HTN
    change Code.wp _ _ _ _ _
    conv => arg 2; whnf
    go_upto_region 16 with fail
    refine onceM16 t ao0 ao1 ao2 ao3 ao4 ao5 ao6 ac0 ac1 ac2 ac3 ac4 ac5 ac6 v l (fun b => (b < N ∨ w1.heap.size ≤ b) ∧ b < gp) HR2 HAF2 HF2 HFV hl (by omega) _ (hid ?_)
    intro y80 y81 y82 y83 v3 w3 ha3 hb3
    have HA3 := hid ha3
    have HB3 := hid (HB2.out.trans hb3)
    clear ha3 hb3
    go_wp2
    apply hGo.out
    · exact HB3.out
    · exact HA3.out
    · intro x hx
      rcases List.mem_append.1 hx with hx | hx
      · exact HFO.out x hx
      · simp at hx
        rw [hx]
        exact HFN.out
    · simp
  · have e0 : (n == 0) = false := by simpa using h0
    have e1 : decide (n = 0) = false := by simpa using h0
    change Code.wp _ _ _ _ _
    conv => arg 2; whnf
    go_wp2
    apply hGo.out
    · exact HB2.out
    · exact HAF2.out
    · exact HFO.out
    · omega

set_option maxRecDepth 1000000 in
set_option maxHeartbeats 8000000 in
theorem onceConf {sl0 sl5 sl7 sl8 sl9 sl10 sl12 sl14 sl15 sl16 sl17 sl18 sl19 sl20 sl21 sl22 sl23 sl24 sl25 sl26 sl27 sl28 sl29 sl30 sl31 sl32 sl33 sl34 sl35 sl36 sl37 sl38 sl39 sl40 sl41 sl42 sl43 sl44 sl45 sl46 sl47 sl48 sl49 sl50 sl51 sl52 sl53 sl54 sl55 sl56 sl57 sl58 sl59 sl60 sl61 sl62 sl63 sl64 sl65 sl66 sl67 sl68 sl69 sl70 sl71 sl72 sl73 sl74 sl75 sl76 sl77 sl78 sl79 sl80 sl81 sl82 sl83 sl84 sl85 sl86 sl87 sl88 sl89 sl90 sl91 sl92 sl93 sl94 sl95 sl96 sl97 sl98 sl99 sl100 sl101 sl102 sl103 sl104 sl105 sl106 sl107 sl108 sl109 sl110 sl111 sl112 sl113 sl114 sl115 sl116 sl117 sl118 sl119 sl120 sl121 sl122 sl123 sl124 sl125 sl126 sl127 sl128 sl129 sl130 sl131 sl132 sl133 sl134 sl135 sl136 sl137 sl138 sl139 : Value} {gs gh N base : Nat} {w1 : World} (s t : St) (n i c o q : Int) (ss0 ss1 ss2 ss3 ss5 ss6 ss7 ss8 ss9 hs0 hs1 hs2 hs3 hs4 hs5 hs6 hs7 hs8 hs9 hs10 hs11 hs12 hs13 hs14 hs15 hs16 hs17 : Value) (o2 : Option Addr) (c2 : Nat) (v : Value) (l : List St) (HA : Hid (Row w1 gs 28 [ss0, ss1, ss2, ss3, .slice o2 s.conns.length c2, ss5, ss6, ss7, ss8, ss9])) (HH : Hid (Row w1 gh 46 [hs0, hs1, hs2, hs3, hs4, hs5, hs6, hs7, hs8, hs9, hs10, hs11, hs12, hs13, hs14, hs15, hs16, hs17])) (hC : Hid (Calls Tryz.prog 20 #[.agg #[ss0, ss1, ss2, ss3, .slice o2 s.conns.length c2, ss5, ss6, ss7, ss8, ss9], .int .i64 i, .agg #[hs0, hs1, hs2, hs3, hs4, hs5, hs6, hs7, hs8, hs9, hs10, hs11, hs12, hs13, hs14, hs15, hs16, hs17]] w1 fun e w' => Below w1.heap.size w1 w' ∧ ∃ v', e = .returned (.tuple #[v', .int .i64 n]) ∧ HoldsS N w1.heap.size w' v' t)) (hT : Hid (n = 0 → Follows s i t)) (HAF : Hid (After w1 base v l)) (HFO : Hid (∀ t ∈ l, Follows s i t)) (hl : l.length ≤ 1000) (hN : N ≤ base) (hbase : base ≤ w1.heap.size) (Q : Exit → Act → World → Prop)
    (hGo : Hid (∀ (u22 u23 u84 u85 u86 u87 u88 u89 u90 u91 u92 u93 u94 u95 u96 v' : Value) (l' : List St) (w' : World), Below base w1 w' → After w' base v' l' → (∀ t ∈ l', Follows s i t) → l'.length ≤ l.length + 1 → Q .normal ⟨#[sl0, .int .i64 i, .int .i64 c, .int .i64 o, .int .i64 q, sl5, .pointer (some ⟨gs, 0, none⟩), sl7, sl8, sl9, sl10, .pointer (some ⟨gh, 0, none⟩), sl12, v', sl14, sl15, sl16, sl17, sl18, sl19, sl20, sl21, u22, u23, sl24, sl25, sl26, sl27, sl28, sl29, sl30, sl31, sl32, sl33, sl34, sl35, sl36, sl37, sl38, sl39, sl40, sl41, sl42, sl43, sl44, sl45, sl46, sl47, sl48, sl49, sl50, sl51, sl52, sl53, sl54, sl55, sl56, sl57, sl58, sl59, sl60, sl61, sl62, sl63, sl64, sl65, sl66, sl67, sl68, sl69, sl70, sl71, sl72, sl73, sl74, sl75, sl76, sl77, sl78, sl79, sl80, sl81, sl82, sl83, u84, u85, u86, u87, u88, u89, u90, u91, u92, u93, u94, u95, u96, sl97, sl98, sl99, sl100, sl101, sl102, sl103, sl104, sl105, sl106, sl107, sl108, sl109, sl110, sl111, sl112, sl113, sl114, sl115, sl116, sl117, sl118, sl119, sl120, sl121, sl122, sl123, sl124, sl125, sl126, sl127, sl128, sl129, sl130, sl131, sl132, sl133, sl134, sl135, sl136, sl137, sl138, sl139], []⟩ w')) :
    Code.wp Tryz.prog (.region 17 ((Tryz.f6.body.bind (regOf 17)).getD #[]) false) (Exit.then (Code.wp Tryz.prog ((Tryz.f6.body.bind (restOf 17)).getD .skip) Q) Q) ⟨#[sl0, .int .i64 i, .int .i64 c, .int .i64 o, .int .i64 q, sl5, .pointer (some ⟨gs, 0, none⟩), sl7, sl8, sl9, sl10, .pointer (some ⟨gh, 0, none⟩), sl12, v, sl14, sl15, sl16, sl17, sl18, sl19, sl20, sl21, sl22, sl23, sl24, sl25, sl26, sl27, sl28, sl29, sl30, sl31, sl32, sl33, sl34, sl35, sl36, sl37, sl38, sl39, sl40, sl41, sl42, sl43, sl44, sl45, sl46, sl47, sl48, sl49, sl50, sl51, sl52, sl53, sl54, sl55, sl56, sl57, sl58, sl59, sl60, sl61, sl62, sl63, sl64, sl65, sl66, sl67, sl68, sl69, sl70, sl71, sl72, sl73, sl74, sl75, sl76, sl77, sl78, sl79, sl80, sl81, sl82, sl83, sl84, sl85, sl86, sl87, sl88, sl89, sl90, sl91, sl92, sl93, sl94, sl95, sl96, sl97, sl98, sl99, sl100, sl101, sl102, sl103, sl104, sl105, sl106, sl107, sl108, sl109, sl110, sl111, sl112, sl113, sl114, sl115, sl116, sl117, sl118, sl119, sl120, sl121, sl122, sl123, sl124, sl125, sl126, sl127, sl128, sl129, sl130, sl131, sl132, sl133, sl134, sl135, sl136, sl137, sl138, sl139], []⟩ w1 := by
  refine onceL17 t n i c o q _ _ _ _ _ _ _ _ _ _ _ _ _ _ _ _ _ _ _ _ _ _ _ _ _ _ _ _ HA HH hC _ (hid ?_)
  intro x84 x85 x86 x87 x88 x89 x90 gp pp0 pp1 pp2 pp3 pp4 pp5 pp6 pp7 pp8 pp9 w2 hb2 hg2 hr2 ho2 hh2
  obtain ⟨ao0, ac0, ao1, ac1, ao2, ac2, ao3, ac3, ao4, ac4, ao5, ac5, ao6, ac6, hag, -⟩ := hh2.now.open
  simp only [Value.agg.injEq, Array.mk.injEq, List.cons.injEq, and_true] at hag
  obtain ⟨rfl, rfl, rfl, rfl, rfl, rfl, rfl, rfl, rfl, rfl⟩ := hag
  have HFV := hid (show ∀ b, (fun b => (b < N ∨ w1.heap.size ≤ b) ∧ b < gp) b → v.ownBlock ≠ some b from fun b hb e => by
    have h1 := HAF.out.own b e
    have h2 := hb.1
    omega)
  have HA2 := hid (HA.out.below hb2 HA.out.lt)
  have HAF2 := hid (HAF.out.below hb2)
  have HB2 := hid (hb2.mono hbase)
  have HR2 := hid hr2
  have HF2 := hid hh2
  have hsz2 : w1.heap.size ≤ w2.heap.size := hb2.size
  clear hb2 hg2 hr2 ho2 hh2
  by_cases h0 : n = 0
  · subst h0
    have HTN := hid (hT.out rfl)
    have HFN := hid HTN.out
    clear HTN
    change Code.wp _ _ _ _ _
    conv => arg 2; whnf
    go_upto_region 19 with fail
    refine onceM19 t ao0 ao1 ao2 ao3 ao4 ao5 ao6 ac0 ac1 ac2 ac3 ac4 ac5 ac6 v l (fun b => (b < N ∨ w1.heap.size ≤ b) ∧ b < gp) HR2 HAF2 HF2 HFV hl (by omega) _ (hid ?_)
    intro y93 y94 y95 y96 v3 w3 ha3 hb3
    have HA3 := hid ha3
    have HB3 := hid (HB2.out.trans hb3)
    clear ha3 hb3
    go_wp2
    apply hGo.out
    · exact HB3.out
    · exact HA3.out
    · intro x hx
      rcases List.mem_append.1 hx with hx | hx
      · exact HFO.out x hx
      · simp at hx
        rw [hx]
        exact HFN.out
    · simp
  · have e0 : (n == 0) = false := by simpa using h0
    have e1 : decide (n = 0) = false := by simpa using h0
    change Code.wp _ _ _ _ _
    conv => arg 2; whnf
    go_wp2
    apply hGo.out
    · exact HB2.out
    · exact HAF2.out
    · exact HFO.out
    · omega
end Go.Proofs.YtooemgkjkngpcaaGreatDoor
namespace Go.Proofs.YtooemgkjkngpcaaGreatDoor
open Go.RowKit

theorem then_k2 {P : Program} {c y : Code} {K : Act → World → Prop} {Q : Exit → Act → World → Prop} {a : Act} {w : World} (hk : ∀ a w, y.wp P Q a w → K a w) (h : c.wp P (Exit.then (y.wp P Q) Q) a w) : c.wp P (Exit.then K Q) a w :=
  wp_mono h fun e a w h => by cases e <;> first | exact hk _ _ h | exact h
set_option maxRecDepth 1000000 in
set_option maxHeartbeats 8000000 in
theorem connOnce_any (s : St) (v hv2 : Value) (N : Nat) (w : World) (i c o q : Int) (h : Sh) (hpow : powAt w) (htab : tableAt w) (hN : N ≤ w.heap.size) (hv : StV w N v s) (hh : ShV w N hv2 h) (hfit : s.fits) (hhf : h.fits) :
    Calls Tryz.prog 6 #[v, .int .i64 i, .int .i64 c, .int .i64 o, .int .i64 q, hv2] w fun e w' => e = .returned (.bool true) ∧ Below w.heap.size w w' := by
  obtain ⟨zt, hzt⟩ : ∃ z, askTry s c o q h z := by unfold askTry MemberAt; exact ShownN.some _ _ _ _
  obtain ⟨za, hza⟩ : ∃ z, askAck s i q h z := by unfold askAck MemberAt; exact ShownN.some _ _ _ _
  obtain ⟨zc, hzc⟩ : ∃ z, askConf s i h z := by unfold askConf MemberAt; exact ShownN.some _ _ _ _
  have HIN := hid (show ∀ wx, Below w.heap.size w wx → _ from fun wx hx => init_any s v N wx c o (hv.below (hx.mono hN)) (Nat.le_trans hN hx.size) hfit)
  have HTR := hid (show ∀ wx, Below w.heap.size w wx → _ from fun wx hx => try_any s v hv2 N wx c o q zt h (hv.below (hx.mono hN)) (hh.below (hx.mono hN)) (Nat.le_trans hN hx.size) hfit hhf (htab.past hx) (hpow.below hx) hzt)
  have HAK := hid (show ∀ wx, Below w.heap.size w wx → _ from fun wx hx => ack_any s v hv2 N wx i q za h (hv.below (hx.mono hN)) (hh.below (hx.mono hN)) (Nat.le_trans hN hx.size) hfit hhf (htab.past hx) (hpow.below hx) hza)
  have HCF := hid (show ∀ wx, Below w.heap.size w wx → _ from fun wx hx => conf_any s v hv2 N wx i zc h (hv.below (hx.mono hN)) (hh.below (hx.mono hN)) (Nat.le_trans hN hx.size) hfit hhf (htab.past hx) (hpow.below hx) hzc)
  have HTt := hid (show tryN s c o q zt = 0 → Follows s i (tryS s c o q zt) ∧ addI s (tryN s c o q zt) = (s.conns.length : Int) from fun e => ⟨follows_try hfit e, by rw [e]; exact if_pos rfl⟩)
  have HTi := hid (show initN s c o = 0 → Follows s i (initS s c o) ∧ addI s (initN s c o) = (s.conns.length : Int) from fun e => ⟨follows_init hfit e, by rw [e]; exact if_pos rfl⟩)
  have HTa := hid (show ackN s i q za = 0 → Follows s i (ackS s i q za) from fun e => follows_ack hfit e)
  have HTc := hid (show confN s i zc = 0 → Follows s i (confS s i zc) from fun e => follows_conf hfit e)
  obtain ⟨o1, c1, o2, c2, o3, c3, o4, c4, o5, c5, o6, c6, o7, c7, rfl, hm⟩ := hv.open
  obtain ⟨q1, e1, q2, e2, q3, e3, r1, s1, r2, s2, r3, s3, r4, s4, r5, s5, r6, s6, rfl, -⟩ := hh.open
  obtain ⟨w0, hw0⟩ : ∃ w0, (w.alloc (.cells #[.string s.name, .int .i64 s.height, .int .i64 s.time, .slice o1 s.clients.length c1, .slice o2 s.conns.length c2, .slice o3 s.chans.length c3, .slice o4 s.sent.length c4, .slice o5 s.got.length c5, .slice o6 s.acks.length c6, .slice o7 s.purses.length c7] 28)).alloc (.cells #[.int .i64 h.height, .int .i64 h.prf.index, .int .i64 h.prf.size, .slice q1 h.prf.key.length e1, .slice q2 h.prf.val.length e2, .slice q3 h.prf.path.length e3, .bool h.gap.hasL, .bool h.gap.hasR, .int .i64 h.gap.left.index, .int .i64 h.gap.left.size, .slice r1 h.gap.left.key.length s1, .slice r2 h.gap.left.val.length s2, .slice r3 h.gap.left.path.length s3, .int .i64 h.gap.right.index, .int .i64 h.gap.right.size, .slice r4 h.gap.right.key.length s4, .slice r5 h.gap.right.val.length s5, .slice r6 h.gap.right.path.length s6] 46) = w0 := ⟨_, rfl⟩
  have hb0 : Below w.heap.size w w0 := by rw [← hw0]; exact ((Below.refl _ _).alloc (Nat.le_refl _) _).alloc (by simp) _
  have HB0 := hid hb0
  have HA0 := hid (show Row w0 (w.heap.size) 28 [.string s.name, .int .i64 s.height, .int .i64 s.time, .slice o1 s.clients.length c1, .slice o2 s.conns.length c2, .slice o3 s.chans.length c3, .slice o4 s.sent.length c4, .slice o5 s.got.length c5, .slice o6 s.acks.length c6, .slice o7 s.purses.length c7] by rw [← hw0]; exact ((Row.new _ _ _).alloc _))
  have HH0 := hid (show Row w0 (w.heap.size + 1) 46 [.int .i64 h.height, .int .i64 h.prf.index, .int .i64 h.prf.size, .slice q1 h.prf.key.length e1, .slice q2 h.prf.val.length e2, .slice q3 h.prf.path.length e3, .bool h.gap.hasL, .bool h.gap.hasR, .int .i64 h.gap.left.index, .int .i64 h.gap.left.size, .slice r1 h.gap.left.key.length s1, .slice r2 h.gap.left.val.length s2, .slice r3 h.gap.left.path.length s3, .int .i64 h.gap.right.index, .int .i64 h.gap.right.size, .slice r4 h.gap.right.key.length s4, .slice r5 h.gap.right.val.length s5, .slice r6 h.gap.right.path.length s6] by rw [← hw0]; exact (Row.newAt _ _ _ _ (by simp)))
  have hsz0 : w0.heap.size = w.heap.size + 2 := by rw [← hw0]; simp
  have HW0 := hid hw0
  have HSF := hid hfit
  have HM0 := hid hm
  clear hv hm hh hfit hhf htab hpow hb0 hw0 hzt hza hzc
  obtain ⟨tt, htt⟩ : ∃ t : St, tryS s c o q zt = t := ⟨_, rfl⟩
  rw [htt] at HTR HTt
  clear htt
  obtain ⟨nt, hnt⟩ : ∃ n : Int, tryN s c o q zt = n := ⟨_, rfl⟩
  obtain ⟨mt, hmt⟩ : ∃ n : Int, addI s (tryN s c o q zt) = n := ⟨_, rfl⟩
  rw [hmt, hnt] at HTR HTt
  clear hmt hnt
  obtain ⟨ti, hti⟩ : ∃ t : St, initS s c o = t := ⟨_, rfl⟩
  rw [hti] at HIN HTi
  clear hti
  obtain ⟨ni, hni⟩ : ∃ n : Int, initN s c o = n := ⟨_, rfl⟩
  obtain ⟨mi, hmi⟩ : ∃ n : Int, addI s (initN s c o) = n := ⟨_, rfl⟩
  rw [hmi, hni] at HIN HTi
  clear hmi hni
  obtain ⟨ta, hta⟩ : ∃ t : St, ackS s i q za = t := ⟨_, rfl⟩
  rw [hta] at HAK HTa
  clear hta
  obtain ⟨na, hna⟩ : ∃ n : Int, ackN s i q za = n := ⟨_, rfl⟩
  rw [hna] at HAK HTa
  clear hna
  obtain ⟨tc, htc⟩ : ∃ t : St, confS s i zc = t := ⟨_, rfl⟩
  rw [htc] at HCF HTc
  clear htc
  obtain ⟨nc, hnc⟩ : ∃ n : Int, confN s i zc = n := ⟨_, rfl⟩
  rw [hnc] at HCF HTc
  clear hnc
  go_enter Tryz.func6, Tryz.ntmps6
  go_upto_region 1 with fail
  rw [HW0.out]
  go_wp2_with fail
  refine (alive9_any _).mono ?_
  rintro e w1 ⟨rfl, hb1⟩
  have HB1 := hid (HB0.out.trans (hb1.mono HB0.out.size))
  have HA1 := hid (HA0.out.below hb1 HA0.out.lt)
  have HH1 := hid (HH0.out.below hb1 HH0.out.lt)
  have HAF1 := hid (After.nil w1 w1.heap.size)
  have HFO1 := hid (show ∀ t ∈ ([] : List St), Follows s i t from fun t h => by cases h)
  have hbs1 : w1.heap.size ≤ w1.heap.size := Nat.le_refl _
  have hll1 : ([] : List St).length ≤ 0 := Nat.le_refl _
  have hN1 : N ≤ w1.heap.size := Nat.le_trans hN HB1.out.size
  clear hb1
  go_upto_region 4 with fail
  refine then_k2 (by assumption) ?_
  refine onceTry s tt nt mt i c o q _ _ _ _ _ _ _ _ _ _ _ _ _ _ _ _ _ _ _ _ _ _ _ _ _ _ _ o2 c2 (.slice none 0 0) [] HA1 HH1 (hid (HTR.out _ HB1.out)) HTt HAF1 HFO1 (by omega) hN1 hbs1 _ (hid ?_)
  intro u14_1 u15_1 u16_1 u30_1 u31_1 u32_1 u33_1 u34_1 u35_1 u36_1 u37_1 u38_1 u39_1 u40_1 u41_1 u42_1 u43_1 u44_1 u45_1 u46_1 u47_1 u48_1 u49_1 u50_1 v2 l2 w2 hb2 ha2 hf2 hl2
  have hll2 : l2.length ≤ 1 := by omega
  have HB2 := hid (HB1.out.trans (hb2.mono HB1.out.size))
  have hbs2 : w1.heap.size ≤ w2.heap.size := Nat.le_trans hbs1 hb2.size
  have HA2 := hid (HA1.out.below hb2 HA1.out.lt)
  have HH2 := hid (HH1.out.below hb2 HH1.out.lt)
  have HAF2 := hid ha2
  have HFO2 := hid hf2
  clear hb2 ha2 hf2 hl2
  go_upto_region 9 with fail
  refine then_k2 (by assumption) ?_
  refine onceInit s ti ni mi i c o q _ _ _ _ _ _ _ _ _ o2 c2 v2 l2 HA2 (hid (HIN.out _ HB2.out)) HTi HAF2 HFO2 (by omega) hN1 hbs2 _ (hid ?_)
  intro u17_2 u18_2 u19_2 u51_2 u52_2 u53_2 u54_2 u55_2 u56_2 u57_2 u58_2 u59_2 u60_2 u61_2 u62_2 u63_2 u64_2 u65_2 u66_2 u67_2 u68_2 u69_2 v3 l3 w3 hb3 ha3 hf3 hl3
  have hll3 : l3.length ≤ 2 := by omega
  have HB3 := hid (HB2.out.trans (hb3.mono HB1.out.size))
  have hbs3 : w1.heap.size ≤ w3.heap.size := Nat.le_trans hbs2 hb3.size
  have HA3 := hid (HA2.out.below hb3 HA1.out.lt)
  have HH3 := hid (HH2.out.below hb3 HH1.out.lt)
  have HAF3 := hid ha3
  have HFO3 := hid hf3
  clear hb3 ha3 hf3 hl3
  go_upto_region 14 with fail
  refine then_k2 (by assumption) ?_
  refine onceAck s ta na i c o q _ _ _ _ _ _ _ _ _ _ _ _ _ _ _ _ _ _ _ _ _ _ _ _ _ _ _ o2 c2 v3 l3 HA3 HH3 (hid (HAK.out _ HB3.out)) HTa HAF3 HFO3 (by omega) hN1 hbs3 _ (hid ?_)
  intro u20_3 u21_3 u70_3 u71_3 u72_3 u73_3 u74_3 u75_3 u76_3 u77_3 u78_3 u79_3 u80_3 u81_3 u82_3 u83_3 v4 l4 w4 hb4 ha4 hf4 hl4
  have hll4 : l4.length ≤ 3 := by omega
  have HB4 := hid (HB3.out.trans (hb4.mono HB1.out.size))
  have hbs4 : w1.heap.size ≤ w4.heap.size := Nat.le_trans hbs3 hb4.size
  have HA4 := hid (HA3.out.below hb4 HA1.out.lt)
  have HH4 := hid (HH3.out.below hb4 HH1.out.lt)
  have HAF4 := hid ha4
  have HFO4 := hid hf4
  clear hb4 ha4 hf4 hl4
  go_upto_region 17 with fail
  refine then_k2 (by assumption) ?_
  refine onceConf s tc nc i c o q _ _ _ _ _ _ _ _ _ _ _ _ _ _ _ _ _ _ _ _ _ _ _ _ _ _ _ o2 c2 v4 l4 HA4 HH4 (hid (HCF.out _ HB4.out)) HTc HAF4 HFO4 (by omega) hN1 hbs4 _ (hid ?_)
  intro u22_4 u23_4 u84_4 u85_4 u86_4 u87_4 u88_4 u89_4 u90_4 u91_4 u92_4 u93_4 u94_4 u95_4 u96_4 v5 l5 w5 hb5 ha5 hf5 hl5
  have hll5 : l5.length ≤ 4 := by omega
  have HB5 := hid (HB4.out.trans (hb5.mono HB1.out.size))
  have hbs5 : w1.heap.size ≤ w5.heap.size := Nat.le_trans hbs4 hb5.size
  have HA5 := hid (HA4.out.below hb5 HA1.out.lt)
  have HH5 := hid (HH4.out.below hb5 HH1.out.lt)
  have HAF5 := hid ha5
  have HFO5 := hid hf5
  clear hb5 ha5 hf5 hl5
  obtain ⟨oa, cap, rfl⟩ := HAF5.out.shape
  go_wp2_with fail
  refine onceOut s i o1 o2 o3 o4 o5 o6 o7 c1 c2 c3 c4 c5 c6 c7 l5 oa cap HA5 (hid (HM0.out.below (HB5.out.mono hN))) (Nat.le_trans hN HB5.out.size) HSF HAF5 HFO5 (by omega) _ (hid ?_)
  intro z12 z25 z26 z27 z99 z100 z101 z102 z103 z104 z105 z106 z107 z108 z109 z110 z111 z112 z113 z114 z115 z116 z117 z118 z119 z120 z121 z122 z123 z124 z125 z126 z127 z128 z129 z130 z131 z132 z133 z134 z135 z136 z137 z138 z139 w6 hb6
  have HB6 := hid (HB5.out.trans (hb6.mono HB5.out.size))
  clear hb6
  go_wp2
  go_ret
  exact ⟨rfl, HB6.out⟩
end Go.Proofs.YtooemgkjkngpcaaGreatDoor
