/-
  ChansTell returns true of every state, of every two numbers and a bool and of whatever is shown, the listed package variables (cubes of package sha, uint64pow10 of internal/strconv, deBruijn32tab and deBruijn64tab of math/bits) holding what the program text lays, and each argument reads behind the call as it did; no condition besides.
-/
import Derived.Test.YtbgdpfeobklnhaaGreatDoorcvMemB
import Derived.Test.YtbgdpfeobklnhaaGreatDoorcvHdMems
import Derived.Test.YtbgdpfeobklnhaaGreatDoorcvClMem
import Derived.Test.YtbgdpfeobklnhaaGreatDoorcvStMem
import Derived.Test.YtbgdpfeobklnhaaGreatDoorcvChUse
import Derived.Test.YtbgdpfeobklnhaaGreatDoorcvChAdd
import Derived.Test.YtbgdpfeobklnhaaGreatDoorcvChMem
import Derived.Test.YtbgdpfeobklnhaaGreatDoorcvSt9RKit
import Derived.Test.YtbgdpfeobklnhaaGreatDoorcvChMath
import Derived.Test.YtbgdpfeobklnhaaGreatDoorcvCoMath
import Derived.Test.YtbgdpfeobklnhaaGreatDoorcvStWrong
import Derived.Test.YtbgdpfeobklnhaaGreatDoorcvCoLive
import Derived.Test.YtbgdpfeobklnhaaGreatDoorcvCoAdd
import Derived.Test.YtbgdpfeobklnhaaGreatDoorcvChTell1
import Derived.Test.YtbgdpfeobklnhaaGreatDoorcvChTell3
import Derived.Test.YtbgdpfeobklnhaaGreatDoorcvChRt
import Derived.Test.YtbgdpfeobklnhaaGreatDoorcvChRc
import Derived.Test.YtbgdpfeobklnhaaGreatDoorcvChRy
import Derived.Test.YtbgdpfeobklnhaaGreatDoorcvChAck
import Derived.Test.YtbgdpfeobklnhaaGreatDoorcvChAlong
import Derived.Test.YtbgdpfeobklnhaaGreatDoorcvPairsAll
import Derived.Test.YtbgdpfeobklnhaaGreatDoorcvBookMath
import Derived.Test.YtbgdpfeobklnhaaGreatDoorRows
import Derived.Test.YtbgdpfeobklnhaaGreatDoorcvStApp
import Derived.Test.YtbgdpfeobklnhaaGreatDoorcvShaAll
import Derived.Test.YtbgdpfeobklnhaaGreatDoorCards
import Derived.Test.YtbgdpfeobklnhaaGreatDoorTie
import Derived.Deep.Slices
import Derived.Deep.Strs
import Derived.Deep.FieldsWide
import Derived.ProofKit
import Derived.OpenShut
import Derived.ShutString
import Derived.ChangeOld
import Derived.Below
import Derived.SizedLaws
import Derived.Deep.DeepHandedRow
import Derived.Lib.LaidTab
namespace Go.Proofs.YtbgdpfeobklnhaaGreatDoor
set_option maxRecDepth 1000000
set_option maxHeartbeats 8000000
open Go.RowKit
theorem Qie (s:St) (v hv2:Value) (N:Nat) (w:World) (i q z:Int) (od:Bool) (h:Sh) (hv:StV w N v s) (hh:ShV w N hv2 h) (hN:N≤w.heap.size) (hfit:s.fits) (hhf:h.fits) (htab:Qy w) (hpow:YB w) (hz:Ys s ⟨2,od,i,q,0,0,0⟩ 1 (-1) h z) :
    Calls Tryz.prog 8 #[v,.int .i64 i,.bool od,.int .i64 q,hv2] w fun e w'=>Below w.heap.size w w'∧∃ v',e=.returned (.tuple #[v',.int .i64 (J2 s (Yl s i q z)),.int .i64 (Yl s i q z)])∧Qv N w.heap.size w' v' (ZZ s i od q z):=by
  have HST:=hid (fun wx (hx:Below w.heap.size w wx)=>QcO s v N wx i (hv.below (hx.mono hN)) (Nat.le_trans hN hx.size) hfit)
  have HAD:=hid (fun (h0:QC s i=0) wx (hx:Below w.heap.size w wx)=>QcI s v N wx ⟨2,od,i,q,0,0,0⟩ (hv.below (hx.mono hN)) (Nat.le_trans hN hx.size) hfit (QD (YK h0).1))
  have HMB:=hid (fun (h0:QC s i=0) (hq:Qn 0 q=true) wx (hx:Below w.heap.size w wx)=>QcL s v hv2 N wx 1 (-1) z ⟨2,od,i,q,0,0,0⟩ h (hv.below (hx.mono hN)) (hh.below (hx.mono hN)) (Nat.le_trans hN hx.size) hfit hhf (htab.past hx) (hpow.below hx) (YK h0).1 (YK h0).2 ((YN _ _).1 hq) (by omega) (by omega) hz)
  have HD:=hid (show Yl s i q z=if QC s i≠0 then QC s i else if Qn 0 q=false then 3 else if z≠0 then z else Jn s from rfl)
  have HSS:=hid (show ZZ s i od q z=Qbr s (Yl s i q z) ⟨2,od,i,q,1,1,1⟩ from rfl)
  obtain ⟨o1,c1,o2,c2,o3,c3,o4,c4,o5,c5,o6,c6,o7,c7,rfl,hm⟩:=hv.open
  obtain ⟨q1,e1,q2,e2,q3,e3,r1,s1,r2,s2,r3,s3,r4,s4,r5,s5,r6,s6,rfl,hpv⟩:=hh.open
  clear hv hm hfit hh hpv hhf htab hpow hz
  go_enter Tryz.func8,Tryz.ntmps8
  go_upto_region 1 with fail
  refine ZD ?_
  intro w0 F0 hs
  clear hs
  obtain ⟨k0,k1,k2,k3,k4,k5,k6,k7,k8,k9⟩:=F0.r0.k10
  go_wp2_with fail
  refine (HST.out _ F0.b).mono ?_
  rintro e w1 ⟨rfl,hb1⟩
  have F:=F0.go hb1
  clear hb1 k0 k1 k2 k3 k4 k5 k6 k7 k8 k9 F0
  by_cases hz:QC s i=0
  · have HD2:=hid (HD.out.trans (if_neg (by simp [hz])))
    have HA2:=hid (HAD.out hz)
    have HM2:=hid (HMB.out hz)
    rw [hz]
    clear hz
    cases hfq:Qn 0 q with
    | false =>
      have HFQ:=hid hfq
      have HI:=hid (show Yl s i q z=3 from HD2.out.trans (if_pos hfq))
      have HNO:=hid (show ZZ s i od q z=St.none by rw [HSS.out,HI.out];exact if_neg (by decide))
      clear hfq
      go_wp2_with (first | (go_at_call 33;refine (QP _ _ _).mono ?_;rintro e w' ⟨rfl,hww⟩;obtain rfl:=hww.symm;rw [HFQ.out]) | (refine F.store 2 rfl rfl rfl rfl rfl Qb rfl (by simp [Value.oneCell']) ?_;intro wz FZ OZ))
      refine Qr Tryz.results8 rfl FZ.r2 Qb rfl ⟨FZ.b,_,by rw [HI.out];rfl,?_⟩
      rw [HNO.out]
      exact Qi _ _ _
    | true =>
      have HFQ:=hid hfq
      have HD3:=hid (HD2.out.trans (if_neg (by simp [hfq])))
      have HM3:=hid (HM2.out hfq)
      clear hfq
      go_upto_region 7 with (go_at_call 33;refine (QP _ _ _).mono ?_;rintro e w' ⟨rfl,hww⟩;obtain rfl:=hww.symm;rw [HFQ.out])
      refine F.box ?_
      intro w2 F2 hs2 hb2
      clear hs2 hb2
      obtain ⟨k0,k1,k2,k3,k4,k5,k6,k7,k8,k9⟩:=F2.r0.k10
      obtain ⟨h0,h1,h2,h3,h4,h5,h6,h7,h8,h9,h10,h11,h12,h13,h14,h15,h16,h17⟩:=F2.r1.k18
      obtain ⟨a0,a1,a2,a3,a4,a5,a6⟩:=F2.r3.k7
      go_wp2_with fail
      refine (HM3.out _ F2.b).mono ?_
      rintro e w3 ⟨rfl,hb3⟩
      have F3:=F2.go hb3
      clear hb3 k0 k1 k2 k3 k4 k5 k6 k7 k8 k9 h0 h1 h2 h3 h4 h5 h6 h7 h8 h9 h10 h11 h12 h13 h14 h15 h16 h17 a0 a1 a2 a3 a4 a5 a6 F2
      by_cases hz:z=0
      · subst hz
        have HI:=hid (show Yl s i q 0=Jn s from HD3.out.trans (if_neg (by simp)))
        obtain ⟨k0,k1,k2,k3,k4,k5,k6,k7,k8,k9⟩:=F3.r0.k10
        obtain ⟨a0,a1,a2,a3,a4,a5,a6⟩:=F3.r3.k7
        go_wp2_with fail
        refine (HA2.out _ F3.b).mono ?_
        rintro e w4 ⟨hb4,v',rfl,hva⟩
        have F4:=F3.go hb4
        clear hb4 k0 k1 k2 k3 k4 k5 k6 k7 k8 k9 a0 a1 a2 a3 a4 a5 a6
        obtain ⟨a0,a1,a2,a3,a4,a5,a6,a7,a8,a9,rfl,hon⟩:=hva.now.ten
        have HVA:=hid hva
        have HON:=hid hon
        clear hva hon
        go_wp2_with (refine F4.store 2 rfl rfl rfl rfl rfl Qb rfl HON.out ?_;intro w5 F5 O5)
        refine Qr Tryz.results8 rfl F5.r2 Qb rfl ⟨F5.b,_,by rw [HI.out];rfl,?_⟩
        rw [HSS.out,HI.out]
        exact (HVA.out.only O5 (by omega) F3.r2.lt).lower F3.b.size
      · have e0:(z != 0)=true:=by simpa using hz
        have HI:=hid (show Yl s i q z=z from HD3.out.trans (if_pos hz))
        have HNO:=hid (show ZZ s i od q z=St.none from HSS.out.trans (by rw [HD3.out,if_pos hz];exact if_neg hz))
        have HN0:=hid (show J2 s (z)=0 from if_neg hz)
        clear hz
        go_wp2_with (refine F3.store 2 rfl rfl rfl rfl rfl Qb rfl (by simp [Value.oneCell']) ?_;intro wz FZ OZ)
        refine Qr Tryz.results8 rfl FZ.r2 Qb rfl ⟨FZ.b,_,by rw [HI.out,HN0.out];rfl,?_⟩
        rw [HNO.out]
        exact Qi _ _ _
  · have e0:(QC s i != 0)=true:=by simpa using hz
    have HI:=hid (show Yl s i q z=QC s i from HD.out.trans (if_pos hz))
    have HNO:=hid (show ZZ s i od q z=St.none from HSS.out.trans (by rw [HD.out,if_pos hz];exact if_neg hz))
    have HN0:=hid (show J2 s (QC s i)=0 from if_neg hz)
    clear hz
    generalize QC s i=zz at *
    go_wp2_with (refine F.store 2 rfl rfl rfl rfl rfl Qb rfl (by simp [Value.oneCell']) ?_;intro wz FZ OZ)
    refine Qr Tryz.results8 rfl FZ.r2 Qb rfl ⟨FZ.b,_,by rw [HI.out,HN0.out];rfl,?_⟩
    rw [HNO.out]
    exact Qi _ _ _
theorem QcK {s:St} {l:List Ch} (hf:s.fits) (hl:l.length<2305843009213693952):({ s with chans:=l }:St).fits:=⟨hf.1,hf.2.1,hf.2.2.1,hl,hf.2.2.2.2⟩
theorem Qd3:St.none.fits:=⟨by decide,⟨by decide,fun _ h=>by cases h⟩,by decide,by decide,⟨by decide,fun _ h=>by cases h⟩,⟨by decide,fun _ h=>by cases h⟩,⟨by decide,fun _ h=>by cases h⟩,by decide,fun _ h=>by cases h⟩
theorem QcD {s:St} {n:Int} {c:Ch} (hf:s.fits) (h:n=0→s.chans.length≤100):(Qbr s n c).fits:=by
  unfold Qbr
  split
  · rename_i e;exact QcK hf (by have:=h e;simp;omega)
  · exact Qd3
theorem Qak {s:St} {n i:Int} {c:Ch} (hf:s.fits):(Qas s n i c).fits:=by
  unfold Qas
  split
  · exact QcK hf (by simpa using hf.2.2.2.1)
  · exact Qd3
theorem Qhh {s:St} {i:Int} (h:J3 s i=0):s.chans.length≤100:=by
  unfold J3 at h
  split at h
  · rename_i h1;exact absurd h h1
  · rename_i h1;exact (QD (YK (by simpa using h1)).1).2.2.1
theorem Qif {s:St} {i q z:Int} (h:Yl s i q z=0):s.chans.length≤100:=by
  unfold Yl at h
  split at h
  · rename_i h1;exact absurd h h1
  · rename_i h1;exact (QD (YK (by simpa using h1)).1).2.2.1
theorem Qdx (s:St) (v hv2:Value) (N:Nat) (w:World) (i q:Int) (od:Bool) (h:Sh) (hpow:YB w) (htab:Qy w) (hN:N≤w.heap.size) (hv:StV w N v s) (hh:ShV w N hv2 h) (hfit:s.fits) (hhf:h.fits) :
    Calls Tryz.prog 3 #[v,.int .i64 i,.bool od,.int .i64 q,hv2] w fun e w'=>e=.returned (.bool true)∧Below w.heap.size w w':=by
  obtain ⟨zt,hzt⟩:∃ z,Ys s ⟨2,od,i,q,0,0,0⟩ 1 (-1) h z:=by unfold Ys JB;exact JO.some _ _ _ _
  obtain ⟨za,hza⟩:∃ z,Ys s ⟨3,(QN s i).ordered,(QN s i).conn,q,0,0,0⟩ 2 i h z:=by unfold Ys JB;exact JO.some _ _ _ _
  obtain ⟨zc,hzc⟩:∃ z,Ys s ⟨2,(QN s i).ordered,(QN s i).conn,(QN s i).ochan,0,0,0⟩ 3 i h z:=by unfold Ys JB;exact JO.some _ _ _ _
  obtain ⟨zy,hzy⟩:∃ z,Ys s ⟨3,(QN s i).ordered,(QN s i).conn,(QN s i).ochan,0,0,0⟩ 4 i h z:=by unfold Ys JB;exact JO.some _ _ _ _
  have HIN:=hid (fun wx (hx:Below w.heap.size w wx)=>Qhg s v N wx i od (hv.below (hx.mono hN)) (Nat.le_trans hN hx.size) hfit)
  have HTR:=hid (fun wx (hx:Below w.heap.size w wx)=>Qie s v hv2 N wx i q zt od h (hv.below (hx.mono hN)) (hh.below (hx.mono hN)) (Nat.le_trans hN hx.size) hfit hhf (htab.past hx) (hpow.below hx) hzt)
  have HAK:=hid (fun wx (hx:Below w.heap.size w wx)=>Qh7 s v hv2 N wx i q za h (hv.below (hx.mono hN)) (hh.below (hx.mono hN)) (Nat.le_trans hN hx.size) hfit hhf (htab.past hx) (hpow.below hx) hza)
  have HCF:=hid (fun wx (hx:Below w.heap.size w wx)=>Qhd s v hv2 N wx i zc h (hv.below (hx.mono hN)) (hh.below (hx.mono hN)) (Nat.le_trans hN hx.size) hfit hhf (htab.past hx) (hpow.below hx) hzc)
  have HCL:=hid (fun wx (hx:Below w.heap.size w wx)=>QfP s v N wx i (hv.below (hx.mono hN)) (Nat.le_trans hN hx.size) hfit)
  have HCD:=hid (fun wx (hx:Below w.heap.size w wx)=>QeO s v hv2 N wx i zy h (hv.below (hx.mono hN)) (hh.below (hx.mono hN)) (Nat.le_trans hN hx.size) hfit hhf (htab.past hx) (hpow.below hx) hzy)
  have HRi:=hid (fun wx (hx:Below w.heap.size w wx)=>QjZ s v hv2 N wx i q od h (hv.below (hx.mono hN)) (hh.below (hx.mono hN)) (Nat.le_trans hN hx.size) hfit)
  have HRt:=hid (fun wx (hx:Below w.heap.size w wx)=>Qj0 s v hv2 N wx i q od h zt (hv.below (hx.mono hN)) (hh.below (hx.mono hN)) (Nat.le_trans hN hx.size) hfit hhf (htab.past hx) hzt)
  have HRa:=hid (fun wx (hx:Below w.heap.size w wx)=>QjX s v hv2 N wx i q od h za (hv.below (hx.mono hN)) (hh.below (hx.mono hN)) (Nat.le_trans hN hx.size) hfit hhf (htab.past hx) hza)
  have HRc:=hid (fun wx (hx:Below w.heap.size w wx)=>QjY s v hv2 N wx i q od h zc (hv.below (hx.mono hN)) (hh.below (hx.mono hN)) (Nat.le_trans hN hx.size) hfit hhf (htab.past hx) hzc)
  have HRx:=hid (fun wx (hx:Below w.heap.size w wx)=>Qj1 s v hv2 N wx i q od h (hv.below (hx.mono hN)) (hh.below (hx.mono hN)) (Nat.le_trans hN hx.size) hfit)
  have HRy:=hid (fun wx (hx:Below w.heap.size w wx)=>Qj2 s v hv2 N wx i q od h zy (hv.below (hx.mono hN)) (hh.below (hx.mono hN)) (Nat.le_trans hN hx.size) hfit hhf (htab.past hx) hzy)
  have HTi:=hid (show (Qad s i od).fits from QcD hfit Qhh)
  have HTt:=hid (show (ZZ s i od q zt).fits from QcD hfit Qif)
  have HTa:=hid (show (Zp s i q za).fits from Qak hfit)
  have HTc:=hid (show (Q4 s i 2 zc 3).fits from Qak hfit)
  have HTx:=hid (show (Zq s i).fits from Qak hfit)
  have HTy:=hid (show (Q4 s i 3 zy 4).fits from Qak hfit)
  obtain ⟨o1,c1,o2,c2,o3,c3,o4,c4,o5,c5,o6,c6,o7,c7,rfl,hm⟩:=hv.open
  obtain ⟨q1,e1,q2,e2,q3,e3,r1,s1,r2,s2,r3,s3,r4,s4,r5,s5,r6,s6,rfl,hpv⟩:=hh.open
  clear hv hm hh hfit hhf htab hpow hzt hza hzc hzy hpv
  go_enter Tryz.func3,Tryz.ntmps3
  go_upto_region 1 with fail
  refine QgR ?_
  intro w0 F0 hs
  clear hs
  refine QaZ (by assumption) ?_
  refine Qkl F0 HIN HRi HTi _ (hid ?_)
  intro vi12 vi13 vi15 vi16 vi17 vi18 vi19 vi20 vi21 vi22 vi23 vi24 vi25 vi26 vi27 vi28 vi29 vi30 vi31 vi32 vi33 vi34 vi35 vi36 vi37 vi38 vi39 vi40 vi41 vi42 vi43 vi44 vi45 vi46 vi47 vi48 vi49 ga gb pai pbi wi ha hb Fi
  refine Qkm Fi hN ha hb HTR HRt HTt _ (hid ?_)
  intro vt12 vt13 vt15 vt16 vt50 vt51 vt52 vt53 vt54 vt55 vt56 vt57 vt58 vt59 vt60 vt61 vt62 vt63 vt64 vt65 vt66 vt67 vt68 vt69 vt70 vt71 vt72 vt73 vt74 vt75 vt76 vt77 vt78 vt79 vt80 vt81 vt82 vt83 vt84 pat pbt wt ha hb Ft
  refine Qkj Ft hN ha hb HAK HRa HTa _ (hid ?_)
  intro va12 va13 va15 va16 va85 va86 va87 va88 va89 va90 va91 va92 va93 va94 va95 va96 va97 va98 va99 va100 va101 va102 va103 va104 va105 va106 va107 va108 va109 va110 va111 va112 paa pba wa ha hb Fa
  refine Qkk Fa hN ha hb HCF HRc HTc _ (hid ?_)
  intro vc12 vc13 vc15 vc16 vc113 vc114 vc115 vc116 vc117 vc118 vc119 vc120 vc121 vc122 vc123 vc124 vc125 vc126 vc127 vc128 vc129 vc130 vc131 vc132 vc133 vc134 vc135 vc136 vc137 vc138 vc139 pac pbc wc ha hb Fc
  refine Qkn Fc hN ha hb HCL HRx HTx _ (hid ?_)
  intro vx12 vx13 vx15 vx16 vx140 vx141 vx142 vx143 vx144 vx145 vx146 vx147 vx148 vx149 vx150 vx151 vx152 vx153 vx154 vx155 vx156 vx157 vx158 vx159 vx160 vx161 vx162 vx163 vx164 vx165 pax pbx wx ha hb Fx
  refine Qko Fx hN ha hb HCD HRy HTy _ (hid ?_)
  intro vy12 vy13 vy15 vy16 vy166 vy167 vy168 vy169 vy170 vy171 vy172 vy173 vy174 vy175 vy176 vy177 vy178 vy179 vy180 vy181 vy182 vy183 vy184 vy185 vy186 vy187 vy188 vy189 vy190 vy191 w1 hb1
  go_ret
  exact ⟨rfl,hb1⟩
open Go.ChangeShapes Go.WideShapes Go.ChangeAt Go.RowKit
theorem QkU : Tryz.prog.globalNamed "internal/strconv.uint64pow10" = some 2 := by kernel_rfl
theorem Qim:(Tryz.prog.globals[2]?).map (·.type)=some 206:=by kernel_rfl
theorem Qia:Tryz.prog.cellsOf 206=20:=by kernel_rfl
theorem Qid:Tryz.prog.cellsOf 73=1:=by kernel_rfl
theorem QiH:(Rows.laid_internal_strconv_uint64pow10:DataW Unit)=Lib.tabData .u64 Lib.pow10Tab:=by kernel_rfl
def QcA (w:World) (g:Nat) (cs:Array Value):World :=
  { w with heap:=w.heap.modify g fun
      | .cells _ t frozen=>.cells cs t frozen
      | o=>o }
def Qgz (w:World):World:=QcA (QcA (QcA w 3 #[.int .u8 0,.int .u8 1,.int .u8 28,.int .u8 2,.int .u8 29,.int .u8 14,.int .u8 24,.int .u8 3,.int .u8 30,.int .u8 22,.int .u8 20,.int .u8 15,.int .u8 25,.int .u8 17,.int .u8 4,.int .u8 8,.int .u8 31,.int .u8 27,.int .u8 13,.int .u8 23,.int .u8 21,.int .u8 19,.int .u8 16,.int .u8 7,.int .u8 26,.int .u8 12,.int .u8 18,.int .u8 6,.int .u8 11,.int .u8 5,.int .u8 10,.int .u8 9]) 4 #[.int .u8 0,.int .u8 1,.int .u8 56,.int .u8 2,.int .u8 57,.int .u8 49,.int .u8 28,.int .u8 3,.int .u8 61,.int .u8 58,.int .u8 42,.int .u8 50,.int .u8 38,.int .u8 29,.int .u8 17,.int .u8 4,.int .u8 62,.int .u8 47,.int .u8 59,.int .u8 36,.int .u8 45,.int .u8 43,.int .u8 51,.int .u8 22,.int .u8 53,.int .u8 39,.int .u8 33,.int .u8 30,.int .u8 24,.int .u8 18,.int .u8 12,.int .u8 5,.int .u8 63,.int .u8 55,.int .u8 48,.int .u8 27,.int .u8 60,.int .u8 41,.int .u8 37,.int .u8 16,.int .u8 46,.int .u8 35,.int .u8 44,.int .u8 21,.int .u8 52,.int .u8 32,.int .u8 23,.int .u8 11,.int .u8 54,.int .u8 26,.int .u8 40,.int .u8 15,.int .u8 34,.int .u8 20,.int .u8 31,.int .u8 10,.int .u8 25,.int .u8 14,.int .u8 19,.int .u8 9,.int .u8 13,.int .u8 8,.int .u8 7,.int .u8 6]) 2 #[.int .u64 1,.int .u64 10,.int .u64 100,.int .u64 1000,.int .u64 10000,.int .u64 100000,.int .u64 1000000,.int .u64 10000000,.int .u64 100000000,.int .u64 1000000000,.int .u64 10000000000,.int .u64 100000000000,.int .u64 1000000000000,.int .u64 10000000000000,.int .u64 100000000000000,.int .u64 1000000000000000,.int .u64 10000000000000000,.int .u64 100000000000000000,.int .u64 1000000000000000000,.int .u64 10000000000000000000]
def QcP:List Int:=[1116352408,1899447441,3049323471,3921009573,961987163,1508970993,2453635748,2870763221,3624381080,310598401,607225278,1426881987,1925078388,2162078206,2614888103,3248222580,3835390401,4022224774,264347078,604807628,770255983,1249150122,1555081692,1996064986,2554220882,2821834349,2952996808,3210313671,3336571891,3584528711,113926993,338241895,666307205,773529912,1294757372,1396182291,1695183700,1986661051,2177026350,2456956037,2730485921,2820302411,3259730800,3345764771,3516065817,3600352804,4094571909,275423344,430227734,506948616,659060556,883997877,958139571,1322822218,1537002063,1747873779,1955562222,2024104815,2227730452,2361852424,2428436474,2756734187,3204031479,3329325298]
theorem QkG : Tryz.prog.globalNamed "landbridge/sha.cubes" = some 1 := by kernel_rfl
theorem Qin:(Tryz.prog.globals[1]?).map (·.type)=some 191:=by kernel_rfl
theorem Qic:Tryz.prog.cellsOf 191=64:=by kernel_rfl
theorem Qhe:Tryz.prog.cellsOf 163=1:=by kernel_rfl
theorem Qjo:∀ t,t<64→QcP.getD t 0=u (Qbi.getD t 0):=by decide +kernel
theorem Qig:(Rows.laid_landbridge_sha_cubes:DataW Unit)=Lib.tabData .u32 QcP:=by kernel_rfl
theorem QhK {W : World} {a b d : String × DataW Unit} (h : laidMet Tryz.prog [a, b, ("internal/strconv.uint64pow10", Rows.laid_internal_strconv_uint64pow10), d] W) : YB W := by
  rw [QiH] at h
  obtain ⟨_,⟨_,_,_,_,_,_,_,_,_,_,⟨_,_,_,_,_,_,_,_,_,_,⟨g',t',cs,fuel,p,q,hg',ht',hvar,hd,_,_⟩,_⟩,_⟩,_⟩:=h
  obtain rfl:=Option.some.inj (QkU.symm.trans hg')
  obtain rfl:=Option.some.inj (Qim.symm.trans ht')
  unfold YB Lib.TabIs
  rw [hvar,← Lib.cells_of_tab Tryz.underlying206 Tryz.underlying73 Qid Qia hd]
theorem QfA {W : World} {a b c : String × DataW Unit} (h : laidMet Tryz.prog [a, b, c, ("landbridge/sha.cubes", Rows.laid_landbridge_sha_cubes)] W) : Qy W := by
  rw [Qig] at h
  obtain ⟨_,⟨_,_,_,_,_,_,_,_,_,_,⟨_,_,_,_,_,_,_,_,_,_,⟨_,_,_,_,_,_,_,_,_,_,⟨g',t',cs,fuel,p,q,hg',ht',hvar,hd,_,_⟩,_⟩,_⟩,_⟩,_⟩:=h
  obtain rfl:=Option.some.inj (QkG.symm.trans hg')
  obtain rfl:=Option.some.inj (Qin.symm.trans ht')
  have ht : Lib.TabIs Tryz.prog W "landbridge/sha.cubes" .u32 QcP := by
    unfold Lib.TabIs
    rw [hvar,← Lib.cells_of_tab Tryz.underlying191 Tryz.underlying163 Qhe Qic hd]
  intro t hlt
  rw [ht.cell QkG t hlt,Qjo t hlt]
def QaP (w:World):World:=QcA (Qgz w) 1 #[.int .u32 1116352408,.int .u32 1899447441,.int .u32 3049323471,.int .u32 3921009573,.int .u32 961987163,.int .u32 1508970993,.int .u32 2453635748,.int .u32 2870763221,.int .u32 3624381080,.int .u32 310598401,.int .u32 607225278,.int .u32 1426881987,.int .u32 1925078388,.int .u32 2162078206,.int .u32 2614888103,.int .u32 3248222580,.int .u32 3835390401,.int .u32 4022224774,.int .u32 264347078,.int .u32 604807628,.int .u32 770255983,.int .u32 1249150122,.int .u32 1555081692,.int .u32 1996064986,.int .u32 2554220882,.int .u32 2821834349,.int .u32 2952996808,.int .u32 3210313671,.int .u32 3336571891,.int .u32 3584528711,.int .u32 113926993,.int .u32 338241895,.int .u32 666307205,.int .u32 773529912,.int .u32 1294757372,.int .u32 1396182291,.int .u32 1695183700,.int .u32 1986661051,.int .u32 2177026350,.int .u32 2456956037,.int .u32 2730485921,.int .u32 2820302411,.int .u32 3259730800,.int .u32 3345764771,.int .u32 3516065817,.int .u32 3600352804,.int .u32 4094571909,.int .u32 275423344,.int .u32 430227734,.int .u32 506948616,.int .u32 659060556,.int .u32 883997877,.int .u32 958139571,.int .u32 1322822218,.int .u32 1537002063,.int .u32 1747873779,.int .u32 1955562222,.int .u32 2024104815,.int .u32 2227730452,.int .u32 2361852424,.int .u32 2428436474,.int .u32 2756734187,.int .u32 3204031479,.int .u32 3329325298]
theorem QdP (b off i:Nat):(⟨b,off,none⟩:Addr).add i=⟨b,off+i,none⟩:=by unfold Addr.add;split <;> simp_all
theorem Yt {H:Type} {enc:TypeId×Value→H} {W:World} {fuel:Nat} {v:Value} {x:DataW H×List MemPlace}
    (hf:DataW.trod enc Tryz.prog W 0 (fun _=>true) true fuel 29 [v]=some x) (hsz:∀ y∈x.1.weights Tryz.prog 29,y≤reachBytes) :
    ∃ l,Bytes W W.heap.size v l∧l.length≤140737488351232:=by
  rcases open_ints Tryz.underlying29 Tryz.underlying5 (by kernel_rfl) hf with ⟨hcs,_⟩ | ⟨a,len,cap,zs,hcs,_⟩
  · obtain rfl:v=.slice none 0 0:=by simpa using hcs
    exact ⟨[],.inl ⟨rfl,rfl⟩,by simp⟩
  · obtain rfl:v=.slice (some a) len cap:=by simpa using hcs
    refine Qaw (a0:=some a) (len0:=len) (cap0:=cap) (x:=x) hf (fun elems spare he=>?_)
    refine hsz _ ?_
    rw [he]
    simp [DataW.weights,Tryz.underlying29]
theorem Jh {H:Type} (P:Program) (e:TypeId) (l:List (DataW H)) (d:DataW H) (hd:d∈l) (y:Nat) (hy:y∈d.weights P e):y∈DataW.weightsAll P e l:=by
  induction l with
  | nil=>simp at hd
  | cons a r ih =>
    simp only [DataW.weightsAll,List.mem_append]
    rcases List.mem_cons.1 hd with rfl | h
    · exact .inl hy
    · exact .inr (ih h)
theorem QgX {W:World} {a:Addr} {len m k:Nat} {α:Type} [Inhabited α] (row:α→List Value) (P:α→Prop) (hk:0<k) (hrow:∀ r,(row r).length=k) (hl:len≤m)
    (each:∀ i,i<len→∃ r,W.cells? 0 (a.add (i*k)) k=some (row r)∧P r):∃ l:List α,JF W W.heap.size (.slice (some a) len m) k (l.map row)∧(∀ r∈l,P r)∧l.length=len:=by
  obtain ⟨f,hfs⟩:=Deep.choose_lt each
  refine ⟨(List.range len).map f,?_,fun r hr=>?_,by simp⟩
  · by_cases h0:len=0
    · subst h0
      exact .inr (.inl ⟨a,m,rfl,rfl⟩)
    · have cell:∀ i,i<len→∀ j,j<k→W.cell? ((a.add (i*k)).add j)=(row (f i))[j]?:=fun i hi j hj=>(World.cells?_some (hfs i hi).1).2.2 j hj
      obtain ⟨b,off,spot⟩:=a
      have hc:=cell 0 (by omega) 0 hk
      rw [List.getElem?_eq_getElem (by rw [hrow];exact hk)] at hc
      have hspot:spot=none:=by simpa [Addr.add] using World.cell?_spot hc
      subst hspot
      refine .inr (.inr ⟨b,off,m,by simp,by simpa using hl,fun i r hr=>?_⟩)
      have hi:i<len:=by have:=(List.getElem?_eq_some_iff.1 hr).1;simpa using this
      obtain rfl:row (f i)=r:=by
        rw [List.getElem?_map,List.getElem?_map,List.getElem?_range hi] at hr
        simpa using hr
      have hcell:∀ j x,(row (f i))[j]?=some x→W.cell? ⟨b,off+i*k+j,none⟩=some x:=fun j x hx=>by
        have hj:j<k:=by have:=(List.getElem?_eq_some_iff.1 hx).1;rwa [hrow] at this
        have:=cell i hi j hj
        rwa [QdP,QdP,hx] at this
      refine ⟨block_lt_of_cell (hcell 0 _ (List.getElem?_eq_getElem (by rw [hrow];exact hk))),hcell⟩
  · obtain ⟨i,hi,rfl⟩:=List.mem_map.1 hr
    exact (hfs i (List.mem_range.1 hi)).2
theorem Qkd {z:Int} (h:(Lit.int .u64 z).wf=true):∃ n:Nat,z=n∧n<18446744073709551616:=by
  have:0≤z∧z<18446744073709551616:=by
    simp [Lit.wf,IntKind.min,IntKind.max,IntKind.signed,IntKind.bits] at h
    omega
  exact ⟨z.toNat,by omega,by omega⟩
theorem Qe4 {H:Type} {enc:TypeId×Value→H} {W:World} {fuel:Nat} {c0 c1 c2 c3:Value} {x:DataW H×List MemPlace}
    (hf:DataW.trod enc Tryz.prog W 0 (fun _=>true) true fuel 114 [c0,c1,c2,c3]=some x) (hsz:∀ y∈x.1.weights Tryz.prog 114,y≤reachBytes) :
    ∃ k:Kn,c0=.int .i64 k.height∧c1=.int .i64 k.time∧Bytes W W.heap.size c2 k.root∧Bytes W W.heap.size c3 k.next∧k.fits:=by
  obtain ⟨xs,n',_,hd,_,hlen,hfs⟩:=DataW.trod_struct Tryz.underlying114 hf
  have e1:Tryz.prog.cellsOf 3=1:=by kernel_rfl
  have e3:Tryz.prog.cellsOf 29=1:=by kernel_rfl
  match xs,hlen with
  | [y0,y1,y2,y3],_ =>
    have t0:DataW.trod enc Tryz.prog W 0 (fun _=>true) true n' 3 [c0]=some y0:=by
      have:=hfs 0 _ rfl
      simpa [e1] using this
    have t1:DataW.trod enc Tryz.prog W 0 (fun _=>true) true n' 3 [c1]=some y1:=by
      have:=hfs 1 _ rfl
      simpa [e1] using this
    have t2:DataW.trod enc Tryz.prog W 0 (fun _=>true) true n' 29 [c2]=some y2:=by
      have:=hfs 2 _ rfl
      simpa [e3] using this
    have t3:DataW.trod enc Tryz.prog W 0 (fun _=>true) true n' 29 [c3]=some y3:=by
      have:=hfs 3 _ rfl
      simpa [e3] using this
    have hw:∀ y,y∈y2.1.weights Tryz.prog 29∨y∈y3.1.weights Tryz.prog 29→y≤reachBytes:=fun y hy=>hsz y (by
      rw [hd]
      simp only [DataW.weights,Tryz.underlying114]
      simp [DataW.weightsEach]
      rcases hy with hy | hy
      · exact .inr (.inr (.inl hy))
      · exact .inr (.inr (.inr hy)))
    obtain ⟨l2,hb2,hl2⟩:=Yt t2 (fun y hy=>hw y (.inl hy))
    obtain ⟨l3,hb3,hl3⟩:=Yt t3 (fun y hy=>hw y (.inr hy))
    obtain ⟨z0,g0,_⟩:=DataW.trod_int Tryz.underlying3 t0
    obtain ⟨z1,g1,_⟩:=DataW.trod_int Tryz.underlying3 t1
    obtain rfl:c0=.int .i64 z0:=by simpa using g0
    obtain rfl:c1=.int .i64 z1:=by simpa using g1
    exact ⟨⟨z0,z1,l2,l3⟩,rfl,rfl,hb2,hb3,hl2,hl3⟩
theorem Qe5 {H:Type} {enc:TypeId×Value→H} {W:World} {fuel:Nat} {v:Value} {x:DataW H×List MemPlace}
    (hf:DataW.trod enc Tryz.prog W 0 (fun _=>true) true fuel 70 [v]=some x) (hsz:∀ y∈x.1.weights Tryz.prog 70,y≤reachBytes) :
    ∃ l,Js W W.heap.size v l∧(∀ k∈l,k.fits)∧l.length<2305843009213693952:=by
  rcases Deep.open_slice Tryz.underlying70 hf with ⟨hcs,_⟩ | ⟨a,len,cap,m,n,D,Pl,hcs,_,hl,hm,hmm,hx,hel⟩
  · obtain rfl:v=.slice none 0 0:=by simpa using hcs
    exact ⟨[],Js.nil _ _,by simp,by simp⟩
  · obtain rfl:v=.slice (some a) len cap:=by simpa using hcs
    have hm':m=cap:=by simpa using hmm
    subst hm'
    have hc4:Tryz.prog.cellsOf 114=4:=by kernel_rfl
    have hb64:Tryz.prog.bytesOf 114=64:=by kernel_rfl
    have hlen:len<2305843009213693952:=by
      have:=hsz ((len+(m-len))*64) (by rw [hx];simp [DataW.weights,Tryz.underlying70,hb64])
      simp only [reachBytes] at this
      omega
    haveI:Inhabited KnR:=⟨⟨Kn.none,undef,undef⟩⟩
    obtain ⟨l,h1,h2,h3⟩:=QgX (W:=W) (a:=a) (len:=len) (m:=m) (k:=4) YX (fun q:KnR=>q.ok W W.heap.size∧q.k.fits) (by omega) (fun _=>rfl) hl (fun i hi=>by
      obtain ⟨cs',g1,g2⟩:=hel i (by omega)
      rw [hc4] at g1
      obtain ⟨_,hcl,_⟩:=World.cells?_some g1
      match cs',hcl with
      | [c0,c1,c2,c3],_ =>
        obtain ⟨k,rfl,rfl,b2,b3,hfit⟩:=Qe4 g2 (fun y hy=>hsz y (by
          rw [hx]
          simp only [DataW.weights,Tryz.underlying70,List.mem_cons,List.mem_append]
          exact .inr (.inl (Jh _ _ _ (D i) (List.mem_map.2 ⟨i,List.mem_range.2 hi,rfl⟩) y hy))))
        exact ⟨⟨k,c2,c3⟩,g1,⟨b2,b3⟩,hfit⟩)
    refine ⟨l.map (·.k),⟨l,rfl,h1,fun q hq=>(h2 q hq).1⟩,fun k hk=>?_,by simp;omega⟩
    obtain ⟨q,hq,rfl⟩:=List.mem_map.1 hk
    exact (h2 q hq).2
theorem Qei {H:Type} {enc:TypeId×Value→H} {W:World} {fuel:Nat} {c0 c1 c2 c3:Value} {x:DataW H×List MemPlace}
    (hf:DataW.trod enc Tryz.prog W 0 (fun _=>true) true fuel 72 [c0,c1,c2,c3]=some x) (hsz:∀ y∈x.1.weights Tryz.prog 72,y≤reachBytes) :
    ∃ c:Cl,c0=.string c.chain∧c1=.int .i64 c.trust∧c2=.bool c.frozen∧Js W W.heap.size c3 c.known∧c.fits:=by
  obtain ⟨xs,n',_,hd,_,hlen,hfs⟩:=DataW.trod_struct Tryz.underlying72 hf
  have e0:Tryz.prog.cellsOf 9=1:=by kernel_rfl
  have e1:Tryz.prog.cellsOf 3=1:=by kernel_rfl
  have e2:Tryz.prog.cellsOf 4=1:=by kernel_rfl
  have e3:Tryz.prog.cellsOf 70=1:=by kernel_rfl
  match xs,hlen with
  | [y0,y1,y2,y3],_ =>
    have t0:DataW.trod enc Tryz.prog W 0 (fun _=>true) true n' 9 [c0]=some y0:=by
      have:=hfs 0 _ rfl
      simpa [e0] using this
    have t1:DataW.trod enc Tryz.prog W 0 (fun _=>true) true n' 3 [c1]=some y1:=by
      have:=hfs 1 _ rfl
      simpa [e1] using this
    have t2:DataW.trod enc Tryz.prog W 0 (fun _=>true) true n' 4 [c2]=some y2:=by
      have:=hfs 2 _ rfl
      simpa [e2] using this
    have t3:DataW.trod enc Tryz.prog W 0 (fun _=>true) true n' 70 [c3]=some y3:=by
      have:=hfs 3 _ rfl
      simpa [e3] using this
    have hw:∀ y,y∈y0.1.weights Tryz.prog 9∨y∈y3.1.weights Tryz.prog 70→y≤reachBytes:=fun y hy=>hsz y (by
      rw [hd]
      simp only [DataW.weights,Tryz.underlying72]
      simp [DataW.weightsEach]
      rcases hy with hy | hy
      · exact .inl hy
      · exact .inr (.inr (.inr hy)))
    obtain ⟨l3,hb3,hf3,hl3⟩:=Qe5 t3 (fun y hy=>hw y (.inr hy))
    obtain ⟨s,g0,q0,_⟩:=DataW.trod_string Tryz.underlying9 t0
    obtain ⟨z1,g1,_⟩:=DataW.trod_int Tryz.underlying3 t1
    obtain ⟨z2,g2,_⟩:=DataW.trod_bool Tryz.underlying4 t2
    obtain rfl:c0=.string s:=by simpa using g0
    obtain rfl:c1=.int .i64 z1:=by simpa using g1
    obtain rfl:c2=.bool z2:=by simpa using g2
    have hs:s.size≤140737488351232:=by
      have:=hw s.size (.inl (by rw [q0];simp [DataW.weights]))
      simpa [reachBytes] using this
    exact ⟨⟨s,z1,z2,l3⟩,rfl,rfl,rfl,hb3,hs,hl3,hf3⟩
theorem QbE {W:World} {a:Addr} {len m k:Nat} {α:Type} {R:World→Nat→List Value→α→Prop} (d:α) (P:α→Prop) (hk:0<k) (hl:len≤m)
    (each:∀ i,i<len→∃ r x,W.cells? 0 (a.add (i*k)) k=some r∧r.length=k∧R W W.heap.size r x∧P x):∃ l:List α,QB R k W W.heap.size (.slice (some a) len m) l∧(∀ x∈l,P x)∧l.length=len:=by
  haveI:Inhabited { p:List Value×α // p.1.length=k }:=⟨⟨(List.replicate k undef,d),by simp⟩⟩
  obtain ⟨l,h1,h2,h3⟩:=QgX (W:=W) (a:=a) (len:=len) (m:=m) (k:=k) (fun p:{ p:List Value×α // p.1.length=k }=>p.1.1) (fun p=>R W W.heap.size p.1.1 p.1.2∧P p.1.2) hk (fun p=>p.2) hl (fun i hi=>by
    obtain ⟨r,x,g1,g2,g3⟩:=each i hi
    exact ⟨⟨(r,x),g2⟩,g1,g3⟩)
  refine ⟨l.map (fun p=>p.1.2),⟨_,by simp,h1,fun i r x hr hx=>?_⟩,fun x hx=>?_,by simpa using h3⟩
  · rw [List.getElem?_map] at hr hx
    cases e:l[i]? with
    | none=>rw [e] at hr;simp at hr
    | some p =>
      rw [e] at hr hx
      simp at hr hx
      subst hr hx
      exact (h2 p (List.mem_of_getElem? e)).1
  · obtain ⟨p,hp,rfl⟩:=List.mem_map.1 hx
    exact (h2 p hp).2
theorem Qhi {H:Type} {enc:TypeId×Value→H} {W:World} {fuel:Nat} {c0 c1 c2 c3:Value} {x:DataW H×List MemPlace}
    (hf:DataW.trod enc Tryz.prog W 0 (fun _=>true) true fuel 60 [c0,c1,c2,c3]=some x) (_hsz:∀ y∈x.1.weights Tryz.prog 60,y≤reachBytes) :
    ∃ q:Cn,CnR W W.heap.size [c0,c1,c2,c3] q∧True:=by
  obtain ⟨xs,n',_,hd,_,hlen,hfs⟩:=DataW.trod_struct Tryz.underlying60 hf
  have ei:Tryz.prog.cellsOf 3=1:=by kernel_rfl
  match xs,hlen with
  | [y0,y1,y2,y3],_ =>
    have t0:DataW.trod enc Tryz.prog W 0 (fun _=>true) true n' 3 [c0]=some y0:=by
      have:=hfs 0 _ rfl
      simpa [ei] using this
    have t1:DataW.trod enc Tryz.prog W 0 (fun _=>true) true n' 3 [c1]=some y1:=by
      have:=hfs 1 _ rfl
      simpa [ei] using this
    have t2:DataW.trod enc Tryz.prog W 0 (fun _=>true) true n' 3 [c2]=some y2:=by
      have:=hfs 2 _ rfl
      simpa [ei] using this
    have t3:DataW.trod enc Tryz.prog W 0 (fun _=>true) true n' 3 [c3]=some y3:=by
      have:=hfs 3 _ rfl
      simpa [ei] using this
    obtain ⟨z0,g0,_⟩:=DataW.trod_int Tryz.underlying3 t0
    obtain rfl:c0=.int .i64 z0:=by simpa using g0
    obtain ⟨z1,g1,_⟩:=DataW.trod_int Tryz.underlying3 t1
    obtain rfl:c1=.int .i64 z1:=by simpa using g1
    obtain ⟨z2,g2,_⟩:=DataW.trod_int Tryz.underlying3 t2
    obtain rfl:c2=.int .i64 z2:=by simpa using g2
    obtain ⟨z3,g3,_⟩:=DataW.trod_int Tryz.underlying3 t3
    obtain rfl:c3=.int .i64 z3:=by simpa using g3
    exact ⟨⟨z0,z1,z2,z3⟩,rfl,trivial⟩
theorem Qhf {H:Type} {enc:TypeId×Value→H} {W:World} {fuel:Nat} {c0 c1 c2 c3 c4 c5 c6:Value} {x:DataW H×List MemPlace}
    (hf:DataW.trod enc Tryz.prog W 0 (fun _=>true) true fuel 54 [c0,c1,c2,c3,c4,c5,c6]=some x) (_hsz:∀ y∈x.1.weights Tryz.prog 54,y≤reachBytes) :
    ∃ q:Ch,ChR W W.heap.size [c0,c1,c2,c3,c4,c5,c6] q∧True:=by
  obtain ⟨xs,n',_,hd,_,hlen,hfs⟩:=DataW.trod_struct Tryz.underlying54 hf
  have eb:Tryz.prog.cellsOf 4=1:=by kernel_rfl
  have ei:Tryz.prog.cellsOf 3=1:=by kernel_rfl
  match xs,hlen with
  | [y0,y1,y2,y3,y4,y5,y6],_ =>
    have t0:DataW.trod enc Tryz.prog W 0 (fun _=>true) true n' 3 [c0]=some y0:=by
      have:=hfs 0 _ rfl
      simpa [eb,ei] using this
    have t1:DataW.trod enc Tryz.prog W 0 (fun _=>true) true n' 4 [c1]=some y1:=by
      have:=hfs 1 _ rfl
      simpa [eb,ei] using this
    have t2:DataW.trod enc Tryz.prog W 0 (fun _=>true) true n' 3 [c2]=some y2:=by
      have:=hfs 2 _ rfl
      simpa [eb,ei] using this
    have t3:DataW.trod enc Tryz.prog W 0 (fun _=>true) true n' 3 [c3]=some y3:=by
      have:=hfs 3 _ rfl
      simpa [eb,ei] using this
    have t4:DataW.trod enc Tryz.prog W 0 (fun _=>true) true n' 3 [c4]=some y4:=by
      have:=hfs 4 _ rfl
      simpa [eb,ei] using this
    have t5:DataW.trod enc Tryz.prog W 0 (fun _=>true) true n' 3 [c5]=some y5:=by
      have:=hfs 5 _ rfl
      simpa [eb,ei] using this
    have t6:DataW.trod enc Tryz.prog W 0 (fun _=>true) true n' 3 [c6]=some y6:=by
      have:=hfs 6 _ rfl
      simpa [eb,ei] using this
    obtain ⟨z0,g0,_⟩:=DataW.trod_int Tryz.underlying3 t0
    obtain rfl:c0=.int .i64 z0:=by simpa using g0
    obtain ⟨z1,g1,_⟩:=DataW.trod_bool Tryz.underlying4 t1
    obtain rfl:c1=.bool z1:=by simpa using g1
    obtain ⟨z2,g2,_⟩:=DataW.trod_int Tryz.underlying3 t2
    obtain rfl:c2=.int .i64 z2:=by simpa using g2
    obtain ⟨z3,g3,_⟩:=DataW.trod_int Tryz.underlying3 t3
    obtain rfl:c3=.int .i64 z3:=by simpa using g3
    obtain ⟨z4,g4,_⟩:=DataW.trod_int Tryz.underlying3 t4
    obtain rfl:c4=.int .i64 z4:=by simpa using g4
    obtain ⟨z5,g5,_⟩:=DataW.trod_int Tryz.underlying3 t5
    obtain rfl:c5=.int .i64 z5:=by simpa using g5
    obtain ⟨z6,g6,_⟩:=DataW.trod_int Tryz.underlying3 t6
    obtain rfl:c6=.int .i64 z6:=by simpa using g6
    exact ⟨⟨z0,z1,z2,z3,z4,z5,z6⟩,rfl,trivial⟩
theorem QhH {H:Type} {enc:TypeId×Value→H} {W:World} {fuel:Nat} {c0 c1 c2:Value} {x:DataW H×List MemPlace}
    (hf:DataW.trod enc Tryz.prog W 0 (fun _=>true) true fuel 93 [c0,c1,c2]=some x) (hsz:∀ y∈x.1.weights Tryz.prog 93,y≤reachBytes) :
    ∃ q:Mk,MkR W W.heap.size [c0,c1,c2] q∧q.fits:=by
  obtain ⟨xs,n',_,hd,_,hlen,hfs⟩:=DataW.trod_struct Tryz.underlying93 hf
  have ei:Tryz.prog.cellsOf 3=1:=by kernel_rfl
  have ey:Tryz.prog.cellsOf 29=1:=by kernel_rfl
  match xs,hlen with
  | [y0,y1,y2],_ =>
    have t0:DataW.trod enc Tryz.prog W 0 (fun _=>true) true n' 3 [c0]=some y0:=by
      have:=hfs 0 _ rfl
      simpa [ei,ey] using this
    have t1:DataW.trod enc Tryz.prog W 0 (fun _=>true) true n' 3 [c1]=some y1:=by
      have:=hfs 1 _ rfl
      simpa [ei,ey] using this
    have t2:DataW.trod enc Tryz.prog W 0 (fun _=>true) true n' 29 [c2]=some y2:=by
      have:=hfs 2 _ rfl
      simpa [ei,ey] using this
    have hw:∀ y,y∈y2.1.weights Tryz.prog 29→y≤reachBytes:=fun y hy=>hsz y (by
      rw [hd]
      simp only [DataW.weights,Tryz.underlying93]
      simp [DataW.weightsEach]
      exact (.inr (.inr hy)))
    obtain ⟨z0,g0,_⟩:=DataW.trod_int Tryz.underlying3 t0
    obtain rfl:c0=.int .i64 z0:=by simpa using g0
    obtain ⟨z1,g1,_⟩:=DataW.trod_int Tryz.underlying3 t1
    obtain rfl:c1=.int .i64 z1:=by simpa using g1
    obtain ⟨l2,hb2,hl2⟩:=Yt t2 (fun y hy=>hw y hy)
    exact ⟨⟨z0,z1,l2⟩,⟨c2,rfl,hb2⟩,hl2⟩
theorem QhL {H:Type} {enc:TypeId×Value→H} {W:World} {fuel:Nat} {c0 c1 c2:Value} {x:DataW H×List MemPlace}
    (hf:DataW.trod enc Tryz.prog W 0 (fun _=>true) true fuel 75 [c0,c1,c2]=some x) (hsz:∀ y∈x.1.weights Tryz.prog 75,y≤reachBytes) :
    ∃ q:Pu,PuR W W.heap.size [c0,c1,c2] q∧q.fits:=by
  obtain ⟨xs,n',_,hd,_,hlen,hfs⟩:=DataW.trod_struct Tryz.underlying75 hf
  have es:Tryz.prog.cellsOf 9=1:=by kernel_rfl
  have eu:Tryz.prog.cellsOf 73=1:=by kernel_rfl
  match xs,hlen with
  | [y0,y1,y2],_ =>
    have t0:DataW.trod enc Tryz.prog W 0 (fun _=>true) true n' 9 [c0]=some y0:=by
      have:=hfs 0 _ rfl
      simpa [es,eu] using this
    have t1:DataW.trod enc Tryz.prog W 0 (fun _=>true) true n' 9 [c1]=some y1:=by
      have:=hfs 1 _ rfl
      simpa [es,eu] using this
    have t2:DataW.trod enc Tryz.prog W 0 (fun _=>true) true n' 73 [c2]=some y2:=by
      have:=hfs 2 _ rfl
      simpa [es,eu] using this
    have hw:∀ y,y∈y0.1.weights Tryz.prog 9∨y∈y1.1.weights Tryz.prog 9→y≤reachBytes:=fun y hy=>hsz y (by
      rw [hd]
      simp only [DataW.weights,Tryz.underlying75]
      simp [DataW.weightsEach]
      rcases hy with hy | hy
      · exact (.inl hy)
      · exact (.inr (.inl hy)))
    obtain ⟨s0,g0,q0,_⟩:=DataW.trod_string Tryz.underlying9 t0
    obtain rfl:c0=.string s0:=by simpa using g0
    have hs0:s0.size≤140737488351232:=by
      have:=hw s0.size ((fun hy=>(.inl hy)) (by rw [q0];simp [DataW.weights]))
      simpa [reachBytes] using this
    obtain ⟨s1,g1,q1,_⟩:=DataW.trod_string Tryz.underlying9 t1
    obtain rfl:c1=.string s1:=by simpa using g1
    have hs1:s1.size≤140737488351232:=by
      have:=hw s1.size ((fun hy=>(.inr hy)) (by rw [q1];simp [DataW.weights]))
      simpa [reachBytes] using this
    obtain ⟨z2,g2,_,f2⟩:=DataW.trod_int Tryz.underlying73 t2
    obtain ⟨n2,rfl,b2⟩:=Qkd f2
    obtain rfl:c2=.int .u64 n2:=by simpa using g2
    exact ⟨⟨s0,s1,n2⟩,rfl,hs0,hs1,b2⟩
theorem QfW {H:Type} {enc:TypeId×Value→H} {W:World} {fuel:Nat} {v:Value} {x:DataW H×List MemPlace}
    (hf:DataW.trod enc Tryz.prog W 0 (fun _=>true) true fuel 23 [v]=some x) (hsz:∀ y∈x.1.weights Tryz.prog 23,y≤reachBytes) :
    ∃ l:List Cn,QB CnR 4 W W.heap.size v l∧(∀ q∈l,True)∧l.length<2305843009213693952:=by
  rcases Deep.open_slice Tryz.underlying23 hf with ⟨hcs,_⟩ | ⟨a,len,cap,m,n,D,Pl,hcs,_,hl,hm,hmm,hx,hel⟩
  · obtain rfl:v=.slice none 0 0:=by simpa using hcs
    exact ⟨[],QB.nil _ _ _ _,fun _ h=>(by cases h),by simp⟩
  · obtain rfl:v=.slice (some a) len cap:=by simpa using hcs
    have hm':m=cap:=by simpa using hmm
    subst hm'
    have hck:Tryz.prog.cellsOf 60=4:=by kernel_rfl
    have hbk:Tryz.prog.bytesOf 60=32:=by kernel_rfl
    have hlen:len<2305843009213693952:=by
      have:=hsz ((len+(m-len))*32) (by rw [hx];simp [DataW.weights,Tryz.underlying23,hbk])
      simp only [reachBytes] at this
      omega
    obtain ⟨l,h1,h2,h3⟩:=QbE (W:=W) (a:=a) (len:=len) (m:=m) (k:=4) (R:=CnR) ⟨0,0,0,0⟩ (fun q=>True) (by omega) hl (fun i hi=>by
      obtain ⟨cs',g1,g2⟩:=hel i (by omega)
      rw [hck] at g1
      obtain ⟨_,hcl,_⟩:=World.cells?_some g1
      match cs',hcl with
      | [c0,c1,c2,c3],_ =>
        obtain ⟨q,hq,_⟩:=Qhi g2 (fun y hy=>hsz y (by
          rw [hx]
          simp only [DataW.weights,Tryz.underlying23,List.mem_cons,List.mem_append]
          exact .inr (.inl (Jh _ _ _ (D i) (List.mem_map.2 ⟨i,List.mem_range.2 hi,rfl⟩) y hy))))
        exact ⟨_,q,g1,rfl,hq,trivial⟩)
    exact ⟨l,h1,h2,by omega⟩
theorem QfT {H:Type} {enc:TypeId×Value→H} {W:World} {fuel:Nat} {v:Value} {x:DataW H×List MemPlace}
    (hf:DataW.trod enc Tryz.prog W 0 (fun _=>true) true fuel 24 [v]=some x) (hsz:∀ y∈x.1.weights Tryz.prog 24,y≤reachBytes) :
    ∃ l:List Ch,QB ChR 7 W W.heap.size v l∧(∀ q∈l,True)∧l.length<2305843009213693952:=by
  rcases Deep.open_slice Tryz.underlying24 hf with ⟨hcs,_⟩ | ⟨a,len,cap,m,n,D,Pl,hcs,_,hl,hm,hmm,hx,hel⟩
  · obtain rfl:v=.slice none 0 0:=by simpa using hcs
    exact ⟨[],QB.nil _ _ _ _,fun _ h=>(by cases h),by simp⟩
  · obtain rfl:v=.slice (some a) len cap:=by simpa using hcs
    have hm':m=cap:=by simpa using hmm
    subst hm'
    have hck:Tryz.prog.cellsOf 54=7:=by kernel_rfl
    have hbk:Tryz.prog.bytesOf 54=56:=by kernel_rfl
    have hlen:len<2305843009213693952:=by
      have:=hsz ((len+(m-len))*56) (by rw [hx];simp [DataW.weights,Tryz.underlying24,hbk])
      simp only [reachBytes] at this
      omega
    obtain ⟨l,h1,h2,h3⟩:=QbE (W:=W) (a:=a) (len:=len) (m:=m) (k:=7) (R:=ChR) ⟨0,false,0,0,0,0,0⟩ (fun q=>True) (by omega) hl (fun i hi=>by
      obtain ⟨cs',g1,g2⟩:=hel i (by omega)
      rw [hck] at g1
      obtain ⟨_,hcl,_⟩:=World.cells?_some g1
      match cs',hcl with
      | [c0,c1,c2,c3,c4,c5,c6],_ =>
        obtain ⟨q,hq,_⟩:=Qhf g2 (fun y hy=>hsz y (by
          rw [hx]
          simp only [DataW.weights,Tryz.underlying24,List.mem_cons,List.mem_append]
          exact .inr (.inl (Jh _ _ _ (D i) (List.mem_map.2 ⟨i,List.mem_range.2 hi,rfl⟩) y hy))))
        exact ⟨_,q,g1,rfl,hq,trivial⟩)
    exact ⟨l,h1,h2,by omega⟩
theorem Qbj {H:Type} {enc:TypeId×Value→H} {W:World} {fuel:Nat} {v:Value} {x:DataW H×List MemPlace}
    (hf:DataW.trod enc Tryz.prog W 0 (fun _=>true) true fuel 25 [v]=some x) (hsz:∀ y∈x.1.weights Tryz.prog 25,y≤reachBytes) :
    ∃ l:List Mk,QB MkR 3 W W.heap.size v l∧(∀ q∈l,q.fits)∧l.length<2305843009213693952:=by
  rcases Deep.open_slice Tryz.underlying25 hf with ⟨hcs,_⟩ | ⟨a,len,cap,m,n,D,Pl,hcs,_,hl,hm,hmm,hx,hel⟩
  · obtain rfl:v=.slice none 0 0:=by simpa using hcs
    exact ⟨[],QB.nil _ _ _ _,fun _ h=>(by cases h),by simp⟩
  · obtain rfl:v=.slice (some a) len cap:=by simpa using hcs
    have hm':m=cap:=by simpa using hmm
    subst hm'
    have hck:Tryz.prog.cellsOf 93=3:=by kernel_rfl
    have hbk:Tryz.prog.bytesOf 93=40:=by kernel_rfl
    have hlen:len<2305843009213693952:=by
      have:=hsz ((len+(m-len))*40) (by rw [hx];simp [DataW.weights,Tryz.underlying25,hbk])
      simp only [reachBytes] at this
      omega
    obtain ⟨l,h1,h2,h3⟩:=QbE (W:=W) (a:=a) (len:=len) (m:=m) (k:=3) (R:=MkR) ⟨0,0,[]⟩ (fun q=>q.fits) (by omega) hl (fun i hi=>by
      obtain ⟨cs',g1,g2⟩:=hel i (by omega)
      rw [hck] at g1
      obtain ⟨_,hcl,_⟩:=World.cells?_some g1
      match cs',hcl with
      | [c0,c1,c2],_ =>
        obtain ⟨q,hq,hqf⟩:=QhH g2 (fun y hy=>hsz y (by
          rw [hx]
          simp only [DataW.weights,Tryz.underlying25,List.mem_cons,List.mem_append]
          exact .inr (.inl (Jh _ _ _ (D i) (List.mem_map.2 ⟨i,List.mem_range.2 hi,rfl⟩) y hy))))
        exact ⟨_,q,g1,rfl,hq,hqf⟩)
    exact ⟨l,h1,h2,by omega⟩
theorem Qfk {H:Type} {enc:TypeId×Value→H} {W:World} {fuel:Nat} {v:Value} {x:DataW H×List MemPlace}
    (hf:DataW.trod enc Tryz.prog W 0 (fun _=>true) true fuel 26 [v]=some x) (hsz:∀ y∈x.1.weights Tryz.prog 26,y≤reachBytes) :
    ∃ l:List Pu,QB PuR 3 W W.heap.size v l∧(∀ q∈l,q.fits)∧l.length<2305843009213693952:=by
  rcases Deep.open_slice Tryz.underlying26 hf with ⟨hcs,_⟩ | ⟨a,len,cap,m,n,D,Pl,hcs,_,hl,hm,hmm,hx,hel⟩
  · obtain rfl:v=.slice none 0 0:=by simpa using hcs
    exact ⟨[],QB.nil _ _ _ _,fun _ h=>(by cases h),by simp⟩
  · obtain rfl:v=.slice (some a) len cap:=by simpa using hcs
    have hm':m=cap:=by simpa using hmm
    subst hm'
    have hck:Tryz.prog.cellsOf 75=3:=by kernel_rfl
    have hbk:Tryz.prog.bytesOf 75=40:=by kernel_rfl
    have hlen:len<2305843009213693952:=by
      have:=hsz ((len+(m-len))*40) (by rw [hx];simp [DataW.weights,Tryz.underlying26,hbk])
      simp only [reachBytes] at this
      omega
    obtain ⟨l,h1,h2,h3⟩:=QbE (W:=W) (a:=a) (len:=len) (m:=m) (k:=3) (R:=PuR) ⟨⟨#[]⟩,⟨#[]⟩,0⟩ (fun q=>q.fits) (by omega) hl (fun i hi=>by
      obtain ⟨cs',g1,g2⟩:=hel i (by omega)
      rw [hck] at g1
      obtain ⟨_,hcl,_⟩:=World.cells?_some g1
      match cs',hcl with
      | [c0,c1,c2],_ =>
        obtain ⟨q,hq,hqf⟩:=QhL g2 (fun y hy=>hsz y (by
          rw [hx]
          simp only [DataW.weights,Tryz.underlying26,List.mem_cons,List.mem_append]
          exact .inr (.inl (Jh _ _ _ (D i) (List.mem_map.2 ⟨i,List.mem_range.2 hi,rfl⟩) y hy))))
        exact ⟨_,q,g1,rfl,hq,hqf⟩)
    exact ⟨l,h1,h2,by omega⟩
theorem Qej {H:Type} {enc:TypeId×Value→H} {W:World} {fuel:Nat} {v:Value} {x:DataW H×List MemPlace}
    (hf:DataW.trod enc Tryz.prog W 0 (fun _=>true) true fuel 22 [v]=some x) (hsz:∀ y∈x.1.weights Tryz.prog 22,y≤reachBytes) :
    ∃ l:List Cl,QB ClR 4 W W.heap.size v l∧(∀ q∈l,q.fits)∧l.length<2305843009213693952:=by
  rcases Deep.open_slice Tryz.underlying22 hf with ⟨hcs,_⟩ | ⟨a,len,cap,m,n,D,Pl,hcs,_,hl,hm,hmm,hx,hel⟩
  · obtain rfl:v=.slice none 0 0:=by simpa using hcs
    exact ⟨[],QB.nil _ _ _ _,fun _ h=>(by cases h),by simp⟩
  · obtain rfl:v=.slice (some a) len cap:=by simpa using hcs
    have hm':m=cap:=by simpa using hmm
    subst hm'
    have hck:Tryz.prog.cellsOf 72=4:=by kernel_rfl
    have hbk:Tryz.prog.bytesOf 72=56:=by kernel_rfl
    have hlen:len<2305843009213693952:=by
      have:=hsz ((len+(m-len))*56) (by rw [hx];simp [DataW.weights,Tryz.underlying22,hbk])
      simp only [reachBytes] at this
      omega
    obtain ⟨l,h1,h2,h3⟩:=QbE (W:=W) (a:=a) (len:=len) (m:=m) (k:=4) (R:=ClR) Cl.none (fun q=>q.fits) (by omega) hl (fun i hi=>by
      obtain ⟨cs',g1,g2⟩:=hel i (by omega)
      rw [hck] at g1
      obtain ⟨_,hcl,_⟩:=World.cells?_some g1
      match cs',hcl with
      | [c0,c1,c2,c3],_ =>
        obtain ⟨q,rfl,rfl,rfl,hq,hqf⟩:=Qei g2 (fun y hy=>hsz y (by
          rw [hx]
          simp only [DataW.weights,Tryz.underlying22,List.mem_cons,List.mem_append]
          exact .inr (.inl (Jh _ _ _ (D i) (List.mem_map.2 ⟨i,List.mem_range.2 hi,rfl⟩) y hy))))
        exact ⟨_,q,g1,rfl,⟨c3,rfl,hq⟩,hqf⟩)
    exact ⟨l,h1,h2,by omega⟩
theorem QfR:Tryz.prog.cellsOf 28=10:=by kernel_rfl
theorem Qgw {H:Type} {enc:TypeId×Value→H} {W:World} {base:Nat} {v:Value} {d:DataW H} {p:List MemPlace}
    (hval:Value.okWide Tryz.prog W .any base 28 v) (h:DataW.Trod enc Tryz.prog W 0 (fun _=>true) true 28 v d p) (hsz:∀ y∈d.weights Tryz.prog 28,y≤reachBytes) :
    ∃ g:St,StV W W.heap.size v g∧g.fits:=by
  obtain ⟨cs,rfl,hcs⟩:=okWide_struct Tryz.underlying28 hval
  rw [QfR] at hcs
  obtain ⟨l⟩:=cs
  match l,hcs with
  | [c0,c1,c2,c3,c4,c5,c6,c7,c8,c9],_ =>
    obtain ⟨fuel,hf⟩:=h
    have hf':DataW.trod enc Tryz.prog W 0 (fun _=>true) true fuel 28 [c0,c1,c2,c3,c4,c5,c6,c7,c8,c9]=some (d,p):=hf
    obtain ⟨xs,n',_,hd,_,hlen,hfs⟩:=DataW.trod_struct Tryz.underlying28 hf'
    have e1:Tryz.prog.cellsOf 9=1:=by kernel_rfl
    have e2:Tryz.prog.cellsOf 3=1:=by kernel_rfl
    have e3:Tryz.prog.cellsOf 22=1:=by kernel_rfl
    have e4:Tryz.prog.cellsOf 23=1:=by kernel_rfl
    have e5:Tryz.prog.cellsOf 24=1:=by kernel_rfl
    have e6:Tryz.prog.cellsOf 25=1:=by kernel_rfl
    have e7:Tryz.prog.cellsOf 26=1:=by kernel_rfl
    match xs,hlen with
    | [y0,y1,y2,y3,y4,y5,y6,y7,y8,y9],_ =>
      have t0:DataW.trod enc Tryz.prog W 0 (fun _=>true) true n' 9 [c0]=some y0:=by
        have:=hfs 0 _ rfl
        simpa [e1,e2,e3,e4,e5,e6,e7] using this
      have t1:DataW.trod enc Tryz.prog W 0 (fun _=>true) true n' 3 [c1]=some y1:=by
        have:=hfs 1 _ rfl
        simpa [e1,e2,e3,e4,e5,e6,e7] using this
      have t2:DataW.trod enc Tryz.prog W 0 (fun _=>true) true n' 3 [c2]=some y2:=by
        have:=hfs 2 _ rfl
        simpa [e1,e2,e3,e4,e5,e6,e7] using this
      have t3:DataW.trod enc Tryz.prog W 0 (fun _=>true) true n' 22 [c3]=some y3:=by
        have:=hfs 3 _ rfl
        simpa [e1,e2,e3,e4,e5,e6,e7] using this
      have t4:DataW.trod enc Tryz.prog W 0 (fun _=>true) true n' 23 [c4]=some y4:=by
        have:=hfs 4 _ rfl
        simpa [e1,e2,e3,e4,e5,e6,e7] using this
      have t5:DataW.trod enc Tryz.prog W 0 (fun _=>true) true n' 24 [c5]=some y5:=by
        have:=hfs 5 _ rfl
        simpa [e1,e2,e3,e4,e5,e6,e7] using this
      have t6:DataW.trod enc Tryz.prog W 0 (fun _=>true) true n' 25 [c6]=some y6:=by
        have:=hfs 6 _ rfl
        simpa [e1,e2,e3,e4,e5,e6,e7] using this
      have t7:DataW.trod enc Tryz.prog W 0 (fun _=>true) true n' 25 [c7]=some y7:=by
        have:=hfs 7 _ rfl
        simpa [e1,e2,e3,e4,e5,e6,e7] using this
      have t8:DataW.trod enc Tryz.prog W 0 (fun _=>true) true n' 25 [c8]=some y8:=by
        have:=hfs 8 _ rfl
        simpa [e1,e2,e3,e4,e5,e6,e7] using this
      have t9:DataW.trod enc Tryz.prog W 0 (fun _=>true) true n' 26 [c9]=some y9:=by
        have:=hfs 9 _ rfl
        simpa [e1,e2,e3,e4,e5,e6,e7] using this
      have hd1:d=.agg [y0.1,y1.1,y2.1,y3.1,y4.1,y5.1,y6.1,y7.1,y8.1,y9.1]:=congrArg Prod.fst hd
      have w0:∀ y∈y0.1.weights Tryz.prog 9,y≤reachBytes:=fun y hy=>hsz y (by
        rw [hd1]
        simp only [DataW.weights,Tryz.underlying28]
        simp [DataW.weightsEach]
        exact (.inl hy))
      have w3:∀ y∈y3.1.weights Tryz.prog 22,y≤reachBytes:=fun y hy=>hsz y (by
        rw [hd1]
        simp only [DataW.weights,Tryz.underlying28]
        simp [DataW.weightsEach]
        exact (.inr (.inr (.inr (.inl hy)))))
      have w4:∀ y∈y4.1.weights Tryz.prog 23,y≤reachBytes:=fun y hy=>hsz y (by
        rw [hd1]
        simp only [DataW.weights,Tryz.underlying28]
        simp [DataW.weightsEach]
        exact (.inr (.inr (.inr (.inr (.inl hy))))))
      have w5:∀ y∈y5.1.weights Tryz.prog 24,y≤reachBytes:=fun y hy=>hsz y (by
        rw [hd1]
        simp only [DataW.weights,Tryz.underlying28]
        simp [DataW.weightsEach]
        exact (.inr (.inr (.inr (.inr (.inr (.inl hy)))))))
      have w6:∀ y∈y6.1.weights Tryz.prog 25,y≤reachBytes:=fun y hy=>hsz y (by
        rw [hd1]
        simp only [DataW.weights,Tryz.underlying28]
        simp [DataW.weightsEach]
        exact (.inr (.inr (.inr (.inr (.inr (.inr (.inl hy))))))))
      have w7:∀ y∈y7.1.weights Tryz.prog 25,y≤reachBytes:=fun y hy=>hsz y (by
        rw [hd1]
        simp only [DataW.weights,Tryz.underlying28]
        simp [DataW.weightsEach]
        exact (.inr (.inr (.inr (.inr (.inr (.inr (.inr (.inl hy)))))))))
      have w8:∀ y∈y8.1.weights Tryz.prog 25,y≤reachBytes:=fun y hy=>hsz y (by
        rw [hd1]
        simp only [DataW.weights,Tryz.underlying28]
        simp [DataW.weightsEach]
        exact (.inr (.inr (.inr (.inr (.inr (.inr (.inr (.inr (.inl hy))))))))))
      have w9:∀ y∈y9.1.weights Tryz.prog 26,y≤reachBytes:=fun y hy=>hsz y (by
        rw [hd1]
        simp only [DataW.weights,Tryz.underlying28]
        simp [DataW.weightsEach]
        exact (.inr (.inr (.inr (.inr (.inr (.inr (.inr (.inr (.inr hy))))))))))
      obtain ⟨s,g0,q0,_⟩:=DataW.trod_string Tryz.underlying9 t0
      obtain ⟨z1,g1,_⟩:=DataW.trod_int Tryz.underlying3 t1
      obtain ⟨z2,g2,_⟩:=DataW.trod_int Tryz.underlying3 t2
      obtain rfl:c0=.string s:=by simpa using g0
      obtain rfl:c1=.int .i64 z1:=by simpa using g1
      obtain rfl:c2=.int .i64 z2:=by simpa using g2
      have hs:s.size≤140737488351232:=by
        have:=w0 s.size (by rw [q0];simp [DataW.weights])
        simpa [reachBytes] using this
      obtain ⟨l3,m3,f3,n3⟩:=Qej t3 w3
      obtain ⟨l4,m4,_,n4⟩:=QfW t4 w4
      obtain ⟨l5,m5,_,n5⟩:=QfT t5 w5
      obtain ⟨l6,m6,f6,n6⟩:=Qbj t6 w6
      obtain ⟨l7,m7,f7,n7⟩:=Qbj t7 w7
      obtain ⟨l8,m8,f8,n8⟩:=Qbj t8 w8
      obtain ⟨l9,m9,f9,n9⟩:=Qfk t9 w9
      exact ⟨⟨s,z1,z2,l3,l4,l5,l6,l7,l8,l9⟩,⟨c3,c4,c5,c6,c7,c8,c9,rfl,m3,m4,m5,m6,m7,m8,m9⟩,hs,⟨n3,f3⟩,n4,n5,⟨n6,f6⟩,⟨n7,f7⟩,⟨n8,f8⟩,n9,f9⟩
theorem Qg9 (b off i:Nat):(⟨b,off,none⟩:Addr).add i=⟨b,off+i,none⟩:=by unfold Addr.add;split <;> simp_all
theorem Yu {H:Type} {enc:TypeId×Value→H} {W:World} {fuel:Nat} {v:Value} {x:DataW H×List MemPlace}
    (hf:DataW.trod enc Tryz.prog W 0 (fun _=>true) true fuel 29 [v]=some x) (hsz:∀ y∈x.1.weights Tryz.prog 29,y≤reachBytes) :
    ∃ l,Bytes W W.heap.size v l∧l.length≤140737488351232:=by
  rcases open_ints Tryz.underlying29 Tryz.underlying5 (by kernel_rfl) hf with ⟨hcs,_⟩ | ⟨a,len,cap,zs,hcs,_⟩
  · obtain rfl:v=.slice none 0 0:=by simpa using hcs
    exact ⟨[],.inl ⟨rfl,rfl⟩,by simp⟩
  · obtain rfl:v=.slice (some a) len cap:=by simpa using hcs
    refine Qaw (a0:=some a) (len0:=len) (cap0:=cap) (x:=x) hf (fun elems spare he=>?_)
    refine hsz _ ?_
    rw [he]
    simp [DataW.weights,Tryz.underlying29]
theorem Qcb {H:Type} (P:Program) (e:TypeId) (l:List (DataW H)) (d:DataW H) (hd:d∈l) (y:Nat) (hy:y∈d.weights P e):y∈DataW.weightsAll P e l:=by
  induction l with
  | nil=>simp at hd
  | cons a r ih =>
    simp only [DataW.weightsAll,List.mem_append]
    rcases List.mem_cons.1 hd with rfl | h
    · exact .inl hy
    · exact .inr (ih h)
theorem Qg8 (a:Addr):a.add 0=a:=by unfold Addr.add;split <;> simp_all
theorem Qb3 {H:Type} {enc:TypeId×Value→H} {W:World} {fuel:Nat} {v:Value} {x:DataW H×List MemPlace}
    (hf:DataW.trod enc Tryz.prog W 0 (fun _=>true) true fuel 30 [v]=some x) (hsz:∀ y∈x.1.weights Tryz.prog 30,y≤reachBytes) :
    ∃ l,Q8 W W.heap.size v l∧(∀ d∈l,d.length≤140737488351232)∧l.length<2305843009213693952:=by
  rcases Deep.open_slice Tryz.underlying30 hf with ⟨hcs,_⟩ | ⟨a,len,cap,m,n,D,Pl,hcs,_,hl,hm,hmm,hx,hel⟩
  · obtain rfl:v=.slice none 0 0:=by simpa using hcs
    exact ⟨[],.inl ⟨rfl,rfl⟩,by simp,by simp⟩
  · obtain rfl:v=.slice (some a) len cap:=by simpa using hcs
    have hm':m=cap:=by simpa using hmm
    subst hm'
    have hc1:Tryz.prog.cellsOf 29=1:=by kernel_rfl
    have hb24:Tryz.prog.bytesOf 29=24:=by kernel_rfl
    have hlen:len<2305843009213693952:=by
      have:=hsz ((len+(m-len))*24) (by rw [hx];simp [DataW.weights,Tryz.underlying30,hb24])
      simp only [reachBytes] at this
      omega
    have each:∀ i,i<len→∃ p:Value×List (BitVec 8),W.cell? (a.add (i*1))=some p.1∧Bytes W W.heap.size p.1 p.2∧p.2.length≤140737488351232:=fun i hi=>by
      obtain ⟨cs',h1,h2⟩:=hel i (by omega)
      rw [hc1] at h1
      obtain ⟨_,hcl,hcc⟩:=World.cells?_some h1
      match cs',hcl with
      | [c0],_ =>
        have g0:=hcc 0 (by omega)
        rw [Qg8] at g0
        obtain ⟨l0,hb0,hl0⟩:=Yu h2 (fun y hy=>hsz y (by
          rw [hx]
          simp only [DataW.weights,Tryz.underlying30,List.mem_cons,List.mem_append]
          exact .inr (.inl (Qcb _ _ _ (D i) (List.mem_map.2 ⟨i,List.mem_range.2 hi,rfl⟩) y hy))))
        exact ⟨(c0,l0),g0,hb0,hl0⟩
    haveI:Inhabited (Value×List (BitVec 8)):=⟨(undef,[])⟩
    obtain ⟨f,hfs⟩:=Deep.choose_lt each
    refine ⟨(List.range len).map fun i=>(f i).2,?_,?_,by simpa using hlen⟩
    · by_cases h0:len=0
      · subst h0
        exact .inr (.inl ⟨a,m,rfl,rfl⟩)
      · obtain ⟨b,off,spot⟩:=a
        have hc:=(hfs 0 (by omega)).1
        have hspot:spot=none:=by simpa [Addr.add] using World.cell?_spot hc
        subst hspot
        refine .inr (.inr ⟨b,off,m,by simp,by simpa using hl,fun i hi=>?_⟩)
        have hi':i<len:=by simpa using hi
        obtain ⟨h1,h2,_⟩:=hfs i hi'
        rw [Qg9,Nat.mul_one] at h1
        refine ⟨block_lt_of_cell h1,(f i).1,h1,?_⟩
        rw [show ((List.range len).map fun i=>(f i).2).getD i []=(f i).2 by simp [hi']]
        exact h2
    · intro p hp
      obtain ⟨i,hi,rfl⟩:=List.mem_map.1 hp
      exact (hfs i (List.mem_range.1 hi)).2.2
theorem QaH {H:Type} {enc:TypeId×Value→H} {W:World} {fuel:Nat} {c0 c1 c2 c3 c4:Value} {x:DataW H×List MemPlace}
    (hf:DataW.trod enc Tryz.prog W 0 (fun _=>true) true fuel 32 [c0,c1,c2,c3,c4]=some x) (hsz:∀ y∈x.1.weights Tryz.prog 32,y≤reachBytes) :
    ∃ p:Prf,c0=.int .i64 p.index∧c1=.int .i64 p.size∧Bytes W W.heap.size c2 p.key∧Bytes W W.heap.size c3 p.val∧Q8 W W.heap.size c4 p.path∧p.fits:=by
  obtain ⟨xs,n',_,hd,_,hlen,hfs⟩:=DataW.trod_struct Tryz.underlying32 hf
  have e1:Tryz.prog.cellsOf 3=1:=by kernel_rfl
  have e3:Tryz.prog.cellsOf 29=1:=by kernel_rfl
  have e4:Tryz.prog.cellsOf 30=1:=by kernel_rfl
  match xs,hlen with
  | [y0,y1,y2,y3,y4],_ =>
    have t0:DataW.trod enc Tryz.prog W 0 (fun _=>true) true n' 3 [c0]=some y0:=by
      have:=hfs 0 _ rfl
      simpa [e1] using this
    have t1:DataW.trod enc Tryz.prog W 0 (fun _=>true) true n' 3 [c1]=some y1:=by
      have:=hfs 1 _ rfl
      simpa [e1] using this
    have t2:DataW.trod enc Tryz.prog W 0 (fun _=>true) true n' 29 [c2]=some y2:=by
      have:=hfs 2 _ rfl
      simpa [e3] using this
    have t3:DataW.trod enc Tryz.prog W 0 (fun _=>true) true n' 29 [c3]=some y3:=by
      have:=hfs 3 _ rfl
      simpa [e3] using this
    have t4:DataW.trod enc Tryz.prog W 0 (fun _=>true) true n' 30 [c4]=some y4:=by
      have:=hfs 4 _ rfl
      simpa [e4] using this
    have hw:∀ y,y∈y2.1.weights Tryz.prog 29∨y∈y3.1.weights Tryz.prog 29∨y∈y4.1.weights Tryz.prog 30→y≤reachBytes:=fun y hy=>hsz y (by
      rw [hd]
      simp only [DataW.weights,Tryz.underlying32]
      simp [DataW.weightsEach]
      rcases hy with hy | hy | hy
      · exact .inr (.inr (.inl hy))
      · exact .inr (.inr (.inr (.inl hy)))
      · exact .inr (.inr (.inr (.inr hy))))
    obtain ⟨l2,hb2,hl2⟩:=Yu t2 (fun y hy=>hw y (.inl hy))
    obtain ⟨l3,hb3,hl3⟩:=Yu t3 (fun y hy=>hw y (.inr (.inl hy)))
    obtain ⟨l4,hb4,hf4,hl4⟩:=Qb3 t4 (fun y hy=>hw y (.inr (.inr hy)))
    obtain ⟨z0,g0,_⟩:=DataW.trod_int Tryz.underlying3 t0
    obtain ⟨z1,g1,_⟩:=DataW.trod_int Tryz.underlying3 t1
    obtain rfl:c0=.int .i64 z0:=by simpa using g0
    obtain rfl:c1=.int .i64 z1:=by simpa using g1
    exact ⟨⟨z0,z1,l2,l3,l4⟩,rfl,rfl,hb2,hb3,hb4,hl2,hl3,hl4,hf4⟩
theorem Qac:Tryz.prog.cellsOf 32=5:=by kernel_rfl
theorem Qh9:Tryz.prog.cellsOf 34=12:=by kernel_rfl
theorem Qhp {H:Type} {enc:TypeId×Value→H} {W:World} {fuel:Nat} {b0 b1 c0 c1 c2 c3 c4 d0 d1 d2 d3 d4:Value} {x:DataW H×List MemPlace}
    (hf:DataW.trod enc Tryz.prog W 0 (fun _=>true) true fuel 34 [b0,b1,c0,c1,c2,c3,c4,d0,d1,d2,d3,d4]=some x) (hsz:∀ y∈x.1.weights Tryz.prog 34,y≤reachBytes) :
    ∃ g:Gp,GpV W W.heap.size (.agg #[b0,b1,c0,c1,c2,c3,c4,d0,d1,d2,d3,d4]) g∧g.fits:=by
  obtain ⟨xs,n',_,hd,_,hlen,hfs⟩:=DataW.trod_struct Tryz.underlying34 hf
  have e1:Tryz.prog.cellsOf 4=1:=by kernel_rfl
  match xs,hlen with
  | [y0,y1,y2,y3],_ =>
    have t0:DataW.trod enc Tryz.prog W 0 (fun _=>true) true n' 4 [b0]=some y0:=by
      have:=hfs 0 _ rfl
      simpa [e1] using this
    have t1:DataW.trod enc Tryz.prog W 0 (fun _=>true) true n' 4 [b1]=some y1:=by
      have:=hfs 1 _ rfl
      simpa [e1] using this
    have t2:DataW.trod enc Tryz.prog W 0 (fun _=>true) true n' 32 [c0,c1,c2,c3,c4]=some y2:=by
      have:=hfs 2 _ rfl
      simpa [Qac] using this
    have t3:DataW.trod enc Tryz.prog W 0 (fun _=>true) true n' 32 [d0,d1,d2,d3,d4]=some y3:=by
      have:=hfs 3 _ rfl
      simpa [Qac] using this
    have hw:∀ y,y∈y2.1.weights Tryz.prog 32∨y∈y3.1.weights Tryz.prog 32→y≤reachBytes:=fun y hy=>hsz y (by
      rw [hd]
      simp only [DataW.weights,Tryz.underlying34]
      simp [DataW.weightsEach]
      rcases hy with hy | hy
      · exact .inr (.inr (.inl hy))
      · exact .inr (.inr (.inr hy)))
    obtain ⟨p,rfl,rfl,h2,h3,h4,h5⟩:=QaH t2 (fun y hy=>hw y (.inl hy))
    obtain ⟨q,rfl,rfl,k2,k3,k4,k5⟩:=QaH t3 (fun y hy=>hw y (.inr hy))
    obtain ⟨z0,g0,_⟩:=DataW.trod_bool Tryz.underlying4 t0
    obtain ⟨z1,g1,_⟩:=DataW.trod_bool Tryz.underlying4 t1
    obtain rfl:b0=.bool z0:=by simpa using g0
    obtain rfl:b1=.bool z1:=by simpa using g1
    exact ⟨⟨z0,z1,p,q⟩,⟨c2,c3,c4,d2,d3,d4,rfl,h2,h3,h4,k2,k3,k4⟩,h5,k5⟩
theorem QfQ:Tryz.prog.cellsOf 36=18:=by kernel_rfl
theorem Qfx {H:Type} {enc:TypeId×Value→H} {W:World} {fuel:Nat} {a0 c0 c1 c2 c3 c4 b0 b1 d0 d1 d2 d3 d4 e0 e1 e2 e3 e4:Value} {x:DataW H×List MemPlace}
    (hf:DataW.trod enc Tryz.prog W 0 (fun _=>true) true fuel 36 [a0,c0,c1,c2,c3,c4,b0,b1,d0,d1,d2,d3,d4,e0,e1,e2,e3,e4]=some x) (hsz:∀ y∈x.1.weights Tryz.prog 36,y≤reachBytes) :
    ∃ g:Sh,ShV W W.heap.size (.agg #[a0,c0,c1,c2,c3,c4,b0,b1,d0,d1,d2,d3,d4,e0,e1,e2,e3,e4]) g∧g.fits:=by
  obtain ⟨xs,n',_,hd,_,hlen,hfs⟩:=DataW.trod_struct Tryz.underlying36 hf
  have i1:Tryz.prog.cellsOf 3=1:=by kernel_rfl
  match xs,hlen with
  | [y0,y1,y2],_ =>
    have t0:DataW.trod enc Tryz.prog W 0 (fun _=>true) true n' 3 [a0]=some y0:=by
      have:=hfs 0 _ rfl
      simpa [i1] using this
    have t1:DataW.trod enc Tryz.prog W 0 (fun _=>true) true n' 32 [c0,c1,c2,c3,c4]=some y1:=by
      have:=hfs 1 _ rfl
      simpa [i1,Qac] using this
    have t2:DataW.trod enc Tryz.prog W 0 (fun _=>true) true n' 34 [b0,b1,d0,d1,d2,d3,d4,e0,e1,e2,e3,e4]=some y2:=by
      have:=hfs 2 _ rfl
      simpa [i1,Qac,Qh9] using this
    have hw:∀ y,y∈y1.1.weights Tryz.prog 32∨y∈y2.1.weights Tryz.prog 34→y≤reachBytes:=fun y hy=>hsz y (by
      rw [hd]
      simp only [DataW.weights,Tryz.underlying36]
      simp [DataW.weightsEach]
      rcases hy with hy | hy
      · exact .inr (.inl hy)
      · exact .inr (.inr hy))
    obtain ⟨g1,rfl,rfl,h2,h3,h4,h5⟩:=QaH t1 (fun y hy=>hw y (.inl hy))
    obtain ⟨g2,hg2,k5⟩:=Qhp t2 (fun y hy=>hw y (.inr hy))
    obtain ⟨z0,q0,_⟩:=DataW.trod_int Tryz.underlying3 t0
    obtain rfl:a0=.int .i64 z0:=by simpa using q0
    have hg2':=hg2
    obtain ⟨k1,v1,p1,k2,v2,p2,eg,-⟩:=hg2
    simp at eg
    obtain ⟨rfl,rfl,rfl,rfl,rfl,rfl,rfl,rfl,rfl,rfl,rfl,rfl⟩:=eg
    exact ⟨⟨z0,g1,g2⟩,⟨_,_,_,_,_,_,_,_,_,rfl,⟨_,_,_,rfl,h2,h3,h4⟩,hg2'⟩,h5,k5⟩
theorem Qgs {H:Type} {enc:TypeId×Value→H} {W:World} {base:Nat} {v:Value} {d:DataW H} {p:List MemPlace}
    (hval:Value.okWide Tryz.prog W .any base 36 v) (h:DataW.Trod enc Tryz.prog W 0 (fun _=>true) true 36 v d p) (hsz:∀ y∈d.weights Tryz.prog 36,y≤reachBytes) :
    ∃ g:Sh,ShV W W.heap.size v g∧g.fits:=by
  obtain ⟨cs,rfl,hcs⟩:=okWide_struct Tryz.underlying36 hval
  rw [QfQ] at hcs
  obtain ⟨l⟩:=cs
  match l,hcs with
  | [a0,c0,c1,c2,c3,c4,b0,b1,d0,d1,d2,d3,d4,e0,e1,e2,e3,e4],_ =>
    obtain ⟨fuel,hf⟩:=h
    exact Qfx (x:=(d,p)) hf hsz
end Go.Proofs.YtbgdpfeobklnhaaGreatDoor
namespace Go.Proofs.YtbgdpfeobklnhaaGreatDoor.chansTell
set_option maxRecDepth 1000000
set_option maxHeartbeats 8000000
open Go.ChangeShapes Go.WideShapes Go.ChangeAt Go.RowKit
theorem own:ownKnob Tryz.prog.godebug=none:=by kernel_rfl
theorem QbD:laidOutB Tryz.prog=true:=by kernel_rfl
theorem QeT (H:Type) (enc:TypeId×Value→H) (W:World) (base:Nat) (args:Array Value) (ds gs:List (DataW H)) (before:List MemPlace)
    (hval:∀ (j:Nat) t v,Tryz.f3.params[j]?=some t→args[j]?=some v→Value.okWide Tryz.prog W .any base t v)
    (hW:DataW.Whole enc Tryz.prog Tryz.f3.params.toList Rows.chansTellSpec.vars false W args.toList ds gs before)
    (hsz0:(DataW.weightsEach Tryz.prog (Tryz.f3.params.toList ++ (OpenSpec.ofChange Rows.chansTellSpec).bare.plain.varTypes Tryz.prog) (ds ++ gs)).all (·≤reachBytes)=true)
    (hL:laidMetH Tryz.prog Rows.chansTellRow.laid W) :
    Calls Tryz.prog 3 args W fun e W'=>∃ v,e=.returned v∧Rows.chansTellSpec.post enc Tryz.prog Tryz.f3 false true false false W args v W':=by
  have htab:Qy W:=QfA hL
  have hpow:YB W:=QhK hL
  have hW':=hW
  obtain ⟨p,q,hA0,hV,rfl,hfz,hnd⟩:=hW
  have hA:DataW.TrodAll enc Tryz.prog W 0 (fun _=>true) true Tryz.f3.params.toList args.toList ds p:=hA0
  rw [Tryz.params3] at hA hval hsz0
  obtain ⟨v0,vs0,d0,ds0,p0,q0,hargs0,rfl,rfl,h0,r0⟩:=trodAll_cons hA
  obtain ⟨v1,vs1,d1,ds1,p1,q1,hargs1,rfl,rfl,h1,r1⟩:=trodAll_cons r0
  subst hargs1
  obtain ⟨v2,vs2,d2,ds2,p2,q2,hargs2,rfl,rfl,h2,r2⟩:=trodAll_cons r1
  subst hargs2
  obtain ⟨v3,vs3,d3,ds3,p3,q3,hargs3,rfl,rfl,h3,r3⟩:=trodAll_cons r2
  subst hargs3
  obtain ⟨v4,vs4,d4,ds4,p4,q4,hargs4,rfl,rfl,h4,r4⟩:=trodAll_cons r3
  subst hargs4
  obtain ⟨rfl,rfl,rfl⟩:=trodAll_nil r4
  obtain rfl:args=#[v0,v1,v2,v3,v4]:=by cases args;simp_all
  obtain ⟨rfl,rfl⟩:=trodVars_none hV
  have k0:=h0
  have lt0:∀ x∈p0,x.block<W.heap.size:=by obtain ⟨m,hm⟩:=k0;exact DataW.trod_lt m _ _ _ hm
  have hw0:∀ y∈d0.weights Tryz.prog 28,y≤reachBytes:=fun y hy=>by
    have:=List.all_eq_true.1 hsz0 _ (DataW.weights_mem_each (j:=0) (t:=28) rfl rfl y hy)
    simpa using this
  obtain ⟨g0,hg0,hgf0⟩:=Qgw (hval 0 28 v0 rfl rfl) h0 hw0
  have k1:=h1
  have lt1:∀ x∈p1,x.block<W.heap.size:=by obtain ⟨m,hm⟩:=k1;exact DataW.trod_lt m _ _ _ hm
  have hw1:∀ y∈d1.weights Tryz.prog 3,y≤reachBytes:=fun y hy=>by
    have:=List.all_eq_true.1 hsz0 _ (DataW.weights_mem_each (j:=1) (t:=3) rfl rfl y hy)
    simpa using this
  obtain ⟨z1,rfl,_,_,_⟩:=open_int Tryz.underlying3 (hval 1 3 v1 rfl rfl) h1
  have k2:=h2
  have lt2:∀ x∈p2,x.block<W.heap.size:=by obtain ⟨m,hm⟩:=k2;exact DataW.trod_lt m _ _ _ hm
  have hw2:∀ y∈d2.weights Tryz.prog 4,y≤reachBytes:=fun y hy=>by
    have:=List.all_eq_true.1 hsz0 _ (DataW.weights_mem_each (j:=2) (t:=4) rfl rfl y hy)
    simpa using this
  obtain ⟨z2,rfl⟩:=okWide_bool Tryz.underlying4 (hval 2 4 v2 rfl rfl)
  have k3:=h3
  have lt3:∀ x∈p3,x.block<W.heap.size:=by obtain ⟨m,hm⟩:=k3;exact DataW.trod_lt m _ _ _ hm
  have hw3:∀ y∈d3.weights Tryz.prog 3,y≤reachBytes:=fun y hy=>by
    have:=List.all_eq_true.1 hsz0 _ (DataW.weights_mem_each (j:=3) (t:=3) rfl rfl y hy)
    simpa using this
  obtain ⟨z3,rfl,_,_,_⟩:=open_int Tryz.underlying3 (hval 3 3 v3 rfl rfl) h3
  have k4:=h4
  have lt4:∀ x∈p4,x.block<W.heap.size:=by obtain ⟨m,hm⟩:=k4;exact DataW.trod_lt m _ _ _ hm
  have hw4:∀ y∈d4.weights Tryz.prog 36,y≤reachBytes:=fun y hy=>by
    have:=List.all_eq_true.1 hsz0 _ (DataW.weights_mem_each (j:=4) (t:=36) rfl rfl y hy)
    simpa using this
  obtain ⟨g4,hg4,hgf4⟩:=Qgs (hval 4 36 v4 rfl rfl) h4 hw4
  clear hA0
  refine (Qdx g0 v0 v4 W.heap.size W z1 z3 z2 g4 hpow htab (Nat.le_refl _) hg0 hg4 hgf0 hgf4).mono fun e W' ⟨he,bel⟩=>?_
  subst he
  exact ⟨_,rfl,_,_,_,[],_,[],hW',trodAll_mk1 (shut_bool Tryz.underlying4 _),(trodAll_cons_mk (Below.trod QbD (by kernel_rfl) (of_decide_eq_true (by kernel_rfl)) k0 bel lt0) (trodAll_cons_mk (Below.trod QbD (by kernel_rfl) (of_decide_eq_true (by kernel_rfl)) k1 bel lt1) (trodAll_cons_mk (Below.trod QbD (by kernel_rfl) (of_decide_eq_true (by kernel_rfl)) k2 bel lt2) (trodAll_cons_mk (Below.trod QbD (by kernel_rfl) (of_decide_eq_true (by kernel_rfl)) k3 bel lt3) (trodAll_cons_mk (Below.trod QbD (by kernel_rfl) (of_decide_eq_true (by kernel_rfl)) k4 bel lt4) trodAll_mk0))))),rfl,bel.frame _,fun h=>by cases h⟩
theorem Qis (os:Os):laidMet Tryz.prog Rows.chansTellRow.laid ((QaP (World.holding Tryz.prog os ⟨#[],#[],[]⟩)).forCall (fun _ _=>0) ⟨#[],#[.agg #[.string ⟨#[]⟩,.int .i64 0,.int .i64 0,.slice none 0 0,.slice none 0 0,.slice none 0 0,.slice none 0 0,.slice none 0 0,.slice none 0 0,.slice none 0 0],.int .i64 0,.bool false,.int .i64 0,.agg #[.int .i64 0,.int .i64 0,.int .i64 0,.slice none 0 0,.slice none 0 0,.slice none 0 0,.bool false,.bool false,.int .i64 0,.int .i64 0,.slice none 0 0,.slice none 0 0,.slice none 0 0,.int .i64 0,.int .i64 0,.slice none 0 0,.slice none 0 0,.slice none 0 0]],[]⟩).memory :=
  laidMet_of_run' 8 (by kernel_rfl) (by kernel_rfl)
theorem Y9 (os:Os) {H:Type} (enc:TypeId×Value→H):∃ places,DataW.whole enc Tryz.prog ((QaP (World.holding Tryz.prog os ⟨#[],#[],[]⟩)).forCall (fun _ _=>0) ⟨#[],#[.agg #[.string ⟨#[]⟩,.int .i64 0,.int .i64 0,.slice none 0 0,.slice none 0 0,.slice none 0 0,.slice none 0 0,.slice none 0 0,.slice none 0 0,.slice none 0 0],.int .i64 0,.bool false,.int .i64 0,.agg #[.int .i64 0,.int .i64 0,.int .i64 0,.slice none 0 0,.slice none 0 0,.slice none 0 0,.bool false,.bool false,.int .i64 0,.int .i64 0,.slice none 0 0,.slice none 0 0,.slice none 0 0,.int .i64 0,.int .i64 0,.slice none 0 0,.slice none 0 0,.slice none 0 0]],[]⟩).memory Tryz.f3.params.toList Rows.chansTellSpec.vars false #[Value.agg #[.string ⟨#[]⟩,.int .i64 0,.int .i64 0,.slice none 0 0,.slice none 0 0,.slice none 0 0,.slice none 0 0,.slice none 0 0,.slice none 0 0,.slice none 0 0],Value.int .i64 0,Value.bool false,Value.int .i64 0,Value.agg #[.int .i64 0,.int .i64 0,.int .i64 0,.slice none 0 0,.slice none 0 0,.slice none 0 0,.bool false,.bool false,.int .i64 0,.int .i64 0,.slice none 0 0,.slice none 0 0,.slice none 0 0,.int .i64 0,.int .i64 0,.slice none 0 0,.slice none 0 0,.slice none 0 0]].toList 8=some ([.agg [.lit (.string []),.lit (.int .i64 0),.lit (.int .i64 0),.nil,.nil,.nil,.nil,.nil,.nil,.nil],.lit (.int .i64 0),.lit (.bool false),.lit (.int .i64 0),.agg [.lit (.int .i64 0),.agg [.lit (.int .i64 0),.lit (.int .i64 0),.nil,.nil,.nil],.agg [.lit (.bool false),.lit (.bool false),.agg [.lit (.int .i64 0),.lit (.int .i64 0),.nil,.nil,.nil],.agg [.lit (.int .i64 0),.lit (.int .i64 0),.nil,.nil,.nil]]]],[],places) :=
  ⟨[],by kernel_rfl⟩
theorem Qkb (os:Os) (started:os.Started) (H:Type) (enc:TypeId×Value→H) (F:Stop.Interp) :
    ReturnsInHanded {} Tryz.checked os 3 .any ((OpenSpec.ofChange Rows.chansTellSpec).preRow enc Tryz.prog Tryz.f3 Rows.chansTellRow.domain false Rows.chansTellRow.laid) (((OpenSpec.ofChange Rows.chansTellSpec).at F).post enc Tryz.prog Tryz.f3 false true false false):=by
  obtain ⟨places,hx⟩:=Y9 os enc
  refine returnsInHanded_of_row (C:=Tryz.checked) (s:=OpenSpec.ofChange Rows.chansTellSpec) own started (by kernel_rfl) Tryz.func3
    (witness_row_at (enc:=enc) (C:=Tryz.checked) false (QaP (World.holding Tryz.prog os ⟨#[],#[],[]⟩)) #[.agg #[.string ⟨#[]⟩,.int .i64 0,.int .i64 0,.slice none 0 0,.slice none 0 0,.slice none 0 0,.slice none 0 0,.slice none 0 0,.slice none 0 0,.slice none 0 0],.int .i64 0,.bool false,.int .i64 0,.agg #[.int .i64 0,.int .i64 0,.int .i64 0,.slice none 0 0,.slice none 0 0,.slice none 0 0,.bool false,.bool false,.int .i64 0,.int .i64 0,.slice none 0 0,.slice none 0 0,.slice none 0 0,.int .i64 0,.int .i64 0,.slice none 0 0,.slice none 0 0,.slice none 0 0]] rfl (by kernel_rfl) (by kernel_rfl) (by kernel_rfl)
      (OpenSpec.preRow_of_cond 8 hx (by kernel_rfl) (fun k hk=>by cases hk) (by kernel_rfl) (Qis os))) ?_
  intro W base args ds gs before hval hW _ _ hsz hL _ _
  exact QeT H enc W base args ds gs before hval hW hsz hL
theorem said:Rows.ChansTellSaid :=
  OpenClaim.holds_of_cond 3 Tryz.f3 rfl rfl rfl rfl rfl rfl rfl ⟨rfl,rfl,rfl,rfl,rfl⟩ rfl rfl rfl rfl rfl (by kernel_rfl) Tryz.func3 (by kernel_rfl)
    (of_decide_eq_true (by kernel_rfl)) (by unfold Func.isWrapper;first | (rw [if_pos (by decide +kernel)];kernel_rfl) | (rw [if_neg (by decide +kernel)];exact ⟨rfl,rfl⟩))
    (fun os started H enc _ F=>by rw [OpenClaim.pre_eq_preRow];exact Qkb os started H enc F)
theorem plain (f : FuncId) (fn : Func) (hf : Tryz.pinned.checked.prog.funcNamed "landbridge/landlaw10.ChansTell" = some f) (hfn : Tryz.pinned.checked.prog.funcs[f]? = some fn) :
    false=Tryz.pinned.checked.prog.looks []∧∀ (j:Nat) t,fn.params[j]?=some t→Tryz.pinned.checked.prog.wantsStandIn t=false:=by
  obtain rfl : f = 3 := Option.some.inj ((show Tryz.prog.funcNamed "landbridge/landlaw10.ChansTell" = some 3 by kernel_rfl).symm.trans hf) |>.symm
  obtain rfl:fn=Tryz.f3:=(Option.some.inj (Tryz.func3.symm.trans hfn)).symm
  refine ⟨by kernel_rfl,fun j t ht=>?_⟩
  rw [Tryz.params3] at ht
  have hm:t=28∨t=3∨t=4∨t=3∨t=36:=by simpa using Array.mem_of_getElem? ht
  rcases hm with rfl | rfl | rfl | rfl | rfl
  · exact (show Tryz.prog.wantsStandIn 28=false by kernel_rfl)
  · exact (show Tryz.prog.wantsStandIn 3=false by kernel_rfl)
  · exact (show Tryz.prog.wantsStandIn 4=false by kernel_rfl)
  · exact (show Tryz.prog.wantsStandIn 3=false by kernel_rfl)
  · exact (show Tryz.prog.wantsStandIn 36=false by kernel_rfl)
end Go.Proofs.YtbgdpfeobklnhaaGreatDoor.chansTell
namespace Go.Proofs.YtbgdpfeobklnhaaGreatDoor
set_option maxRecDepth 1000000
set_option maxHeartbeats 8000000
theorem chansTell_card:Rows.ChansTellCardSaid :=
  Claim7.holds_tied_plain_at .later [] _ _ _ _ chansTell.said (fun _ h=>by cases h) (by kernel_rfl) (fun _ h=>by cases h) chansTell_row_tie rfl ⟨rfl,rfl⟩ (by kernel_rfl) rfl chansTell.plain (by kernel_rfl)
end Go.Proofs.YtbgdpfeobklnhaaGreatDoor
