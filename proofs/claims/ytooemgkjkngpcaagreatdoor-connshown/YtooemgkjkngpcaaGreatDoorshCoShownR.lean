/-
  ConnShown: its drawn regions.
-/
import Derived.Test.YtooemgkjkngpcaaGreatDoorshCoMem
import Derived.Test.YtooemgkjkngpcaaGreatDoorshSt8RKey
import Derived.Test.YtooemgkjkngpcaaGreatDoorshSt8RVal
namespace Go.Proofs.YtooemgkjkngpcaaGreatDoor
open Go.RowKit

theorem wpOp_wants9 {P:Program} {ops:Array Oper} {Q:Exit→Act→World→Prop} {i:Nat} {o:Oper} {K:Act→World→Prop} {a:Act} {w:World} (ho:ops[i]?=some o) (hw:Region.wanted o (yielded ops a.tmps)=true) (h:o.wp P a w K Q):wpOp P ops Q i K a w:=by
  unfold wpOp
  rw [ho]
  simp only [hw,if_true]
  exact .inl h
set_option maxRecDepth 100000 in
set_option maxHeartbeats 4000000 in
theorem shownR6 {y0 y1 y3 y5 y7 y8 y9 y10 y12 y13 y14 y15 y17 y18 y19 y20 y21 y22 y23 y24 y25 y26 y27 y28 y29 y30 y31 y32 y33 y34 y35 y36 y37 y38 y39 y40 y41 y60 y61 y62 y63 y64 y65 y66 y67 y68 y69 y70 y71 y72 y73 y74 y75 y76 y77 y78 y79 y80 y81 y82 y83 y84 y85 y86 y87 y88 y89 y90 y91 y92 y93 y94 y95 y96 y97 y98 y99 y100 y101 y102 y103 y104 y105 y106 y107 y108 y109 y110 y111 y112 y113 y114 y115 y116 y117 y118 y119 y120 y121 y122 y123 y124 y125 y126 y127 y128 y129 y130 y131 y132 y133 y134 y135 y136 y137 y138 y139 y140 y141 y142 y143 y144 y145 y146 y147 y148 y149 y150 y151 y152 y153 y154 y155 y156 y157 y158 y159 y160 y161 y162 y163 y164 y165 y166 y167 z42 z43 z44 z45 z46 z47 z48 z49 z50 z51 z52 z53 z54 z55 z56 z57 z58 z59:Value} {gs go gh N:Nat} (s:St) (x:Cl) (k n b f c1 ma:Nat) (ka o2 o3 o4 o5 o6 o7:Option Addr) (c2 c3 c4 c5 c6 c7:Nat) (h:Sh) (q:Int) (o:Cn) (q1 q2 q3 r1 r2 r3 r4 r5 r6:Option Addr) (e1 e2 e3 s1 s2 s3 s4 s5 s6:Nat) {w:World} (hN:N≤w.heap.size) (hrs:Hid (Row w gs 28 [.string s.name,.int .i64 s.height,.int .i64 s.time,.slice (some ⟨b,f,none⟩) n c1,.slice o2 s.conns.length c2,.slice o3 s.chans.length c3,.slice o4 s.sent.length c4,.slice o5 s.got.length c5,.slice o6 s.acks.length c6,.slice o7 s.purses.length c7])) (_hlt:(k:Int)<(n:Int)) (hb1:b<w.heap.size) (hca:Hid (w.cell? ⟨b,f+k*4,none⟩=some (.string x.chain)∧w.cell? ⟨b,f+k*4+1,none⟩=some (.int .i64 x.trust)∧w.cell? ⟨b,f+k*4+2,none⟩=some (.bool x.frozen)∧w.cell? ⟨b,f+k*4+3,none⟩=some (.slice ka x.known.length ma))) (hcv:Hid (ClV w N (.agg #[.string x.chain,.int .i64 x.trust,.bool x.frozen,.slice ka x.known.length ma]) x)) (hrh:Hid (Row w gh 46 [.int .i64 h.height,.int .i64 h.prf.index,.int .i64 h.prf.size,.slice q1 h.prf.key.length e1,.slice q2 h.prf.val.length e2,.slice q3 h.prf.path.length e3,.bool h.gap.hasL,.bool h.gap.hasR,.int .i64 h.gap.left.index,.int .i64 h.gap.left.size,.slice r1 h.gap.left.key.length s1,.slice r2 h.gap.left.val.length s2,.slice r3 h.gap.left.path.length s3,.int .i64 h.gap.right.index,.int .i64 h.gap.right.size,.slice r4 h.gap.right.key.length s4,.slice r5 h.gap.right.val.length s5,.slice r6 h.gap.right.path.length s6])) (hpv:Hid (PrfV w N (.agg #[.int .i64 h.prf.index,.int .i64 h.prf.size,.slice q1 h.prf.key.length e1,.slice q2 h.prf.val.length e2,.slice q3 h.prf.path.length e3]) h.prf)) (htab:Hid (tableAt w)) (hcf:Hid x.fits) (hpf:Hid h.prf.fits) (hro:Hid (Row w go 58 [.int .i64 o.state,.int .i64 o.client,.int .i64 o.oclient,.int .i64 o.oconn])) (_hq:0≤q∧q≤1000000000000) (ho:Hid (wrongCn o=0)) (hz:Hid (ShownN x s.time h.height (fun r=>h.prf.key=keyL kwConn [q.toNat]∧h.prf.val=connB o∧shownB r h.prf) 0)) (hkl:(keyL kwConn [q.toNat]).length≤140737488351232) (hvl:(connB o).length≤140737488351232) (Q:Exit→Act→World→Prop)
    (hQ:Hid (∀ (σ:Nat→Value) (w':World),Below w.heap.size w w'→/-17-/ σ 17=.bool false→Q .normal ⟨#[y0,y1,.int .i64 (k:Int),y3,.int .i64 q,y5,.pointer (some ⟨gs,0,none⟩),y7,y8,y9,y10,.pointer (some ⟨gh,0,none⟩),y12,y13,y14,y15,.pointer (some ⟨go,0,none⟩),y17,y18,y19,y20,y21,y22,y23,y24,y25,y26,y27,y28,y29,y30,y31,y32,y33,y34,y35,y36,y37,y38,y39,y40,y41,σ 0,σ 1,σ 2,σ 3,σ 4,σ 5,σ 6,σ 7,σ 8,σ 9,σ 10,σ 11,σ 12,σ 13,σ 14,σ 15,σ 16,σ 17,y60,y61,y62,y63,y64,y65,y66,y67,y68,y69,y70,y71,y72,y73,y74,y75,y76,y77,y78,y79,y80,y81,y82,y83,y84,y85,y86,y87,y88,y89,y90,y91,y92,y93,y94,y95,y96,y97,y98,y99,y100,y101,y102,y103,y104,y105,y106,y107,y108,y109,y110,y111,y112,y113,y114,y115,y116,y117,y118,y119,y120,y121,y122,y123,y124,y125,y126,y127,y128,y129,y130,y131,y132,y133,y134,y135,y136,y137,y138,y139,y140,y141,y142,y143,y144,y145,y146,y147,y148,y149,y150,y151,y152,y153,y154,y155,y156,y157,y158,y159,y160,y161,y162,y163,y164,y165,y166,y167],[]⟩ w')) :
    Code.wp Tryz.prog (.region 6 ((Tryz.f5.body.bind (regOf 6)).getD #[]) true) Q ⟨#[y0,y1,.int .i64 (k:Int),y3,.int .i64 q,y5,.pointer (some ⟨gs,0,none⟩),y7,y8,y9,y10,.pointer (some ⟨gh,0,none⟩),y12,y13,y14,y15,.pointer (some ⟨go,0,none⟩),y17,y18,y19,y20,y21,y22,y23,y24,y25,y26,y27,y28,y29,y30,y31,y32,y33,y34,y35,y36,y37,y38,y39,y40,y41,z42,z43,z44,z45,z46,z47,z48,z49,z50,z51,z52,z53,z54,z55,z56,z57,z58,z59,y60,y61,y62,y63,y64,y65,y66,y67,y68,y69,y70,y71,y72,y73,y74,y75,y76,y77,y78,y79,y80,y81,y82,y83,y84,y85,y86,y87,y88,y89,y90,y91,y92,y93,y94,y95,y96,y97,y98,y99,y100,y101,y102,y103,y104,y105,y106,y107,y108,y109,y110,y111,y112,y113,y114,y115,y116,y117,y118,y119,y120,y121,y122,y123,y124,y125,y126,y127,y128,y129,y130,y131,y132,y133,y134,y135,y136,y137,y138,y139,y140,y141,y142,y143,y144,y145,y146,y147,y148,y149,y150,y151,y152,y153,y154,y155,y156,y157,y158,y159,y160,y161,y162,y163,y164,y165,y166,y167],[]⟩ w:=by
  conv=>arg 2;arg 2;whnf
  conv=>arg 4;dsimp only
  refine region_grows (by kernel_rfl) (fun σ=>#[y0,y1,.int .i64 (k:Int),y3,.int .i64 q,y5,.pointer (some ⟨gs,0,none⟩),y7,y8,y9,y10,.pointer (some ⟨gh,0,none⟩),y12,y13,y14,y15,.pointer (some ⟨go,0,none⟩),y17,y18,y19,y20,y21,y22,y23,y24,y25,y26,y27,y28,y29,y30,y31,y32,y33,y34,y35,y36,y37,y38,y39,y40,y41,σ 0,σ 1,σ 2,σ 3,σ 4,σ 5,σ 6,σ 7,σ 8,σ 9,σ 10,σ 11,σ 12,σ 13,σ 14,σ 15,σ 16,σ 17,y60,y61,y62,y63,y64,y65,y66,y67,y68,y69,y70,y71,y72,y73,y74,y75,y76,y77,y78,y79,y80,y81,y82,y83,y84,y85,y86,y87,y88,y89,y90,y91,y92,y93,y94,y95,y96,y97,y98,y99,y100,y101,y102,y103,y104,y105,y106,y107,y108,y109,y110,y111,y112,y113,y114,y115,y116,y117,y118,y119,y120,y121,y122,y123,y124,y125,y126,y127,y128,y129,y130,y131,y132,y133,y134,y135,y136,y137,y138,y139,y140,y141,y142,y143,y144,y145,y146,y147,y148,y149,y150,y151,y152,y153,y154,y155,y156,y157,y158,y159,y160,y161,y162,y163,y164,y165,y166,y167]) (fun i=>([z42,z43,z44,z45,z46,z47,z48,z49,z50,z51,z52,z53,z54,z55,z56,z57,z58,z59]:List Value).getD i undef) rfl (fun i X W=>match i with
    | 0=>X=.pointer (some ⟨gs,3,none⟩)
    | 1=>X=.slice (some ⟨b,f,none⟩) n c1
    | 2=>X=.int .i64 (k:Int)
    | 3=>X=.pointer (some ⟨b,f+k*4,none⟩)
    | 4=>X=.agg #[.string x.chain,.int .i64 x.trust,.bool x.frozen,.slice ka x.known.length ma]
    | 5=>X=.pointer (some ⟨gs,2,none⟩)
    | 6=>X=.int .i64 s.time
    | 7=>X=.pointer (some ⟨gh,0,none⟩)
    | 8=>X=.int .i64 h.height
    | 9=>X=.int .i64 q
    | 10=>∃ r,X=.slice (some ⟨r,0,none⟩) 1 1∧Row W r 3 [.int .i64 q]
    | 11=>Bytes W W.heap.size X (keyL kwConn [q.toNat])
    | 12=>X=.agg #[.int .i64 o.state,.int .i64 o.client,.int .i64 o.oclient,.int .i64 o.oconn]
    | 13=>Bytes W W.heap.size X (connB o)
    | 14=>X=.pointer (some ⟨gh,1,none⟩)
    | 15=>X=.agg #[.int .i64 h.prf.index,.int .i64 h.prf.size,.slice q1 h.prf.key.length e1,.slice q2 h.prf.val.length e2,.slice q3 h.prf.path.length e3]
    | 16=>X=.int .i64 0
    | 17=>X=.bool false
    | _=>True) ?_ (by kernel_rfl) ?_ ?_
  · intro i X W W' HB H
    match i,H with
    | 0,H=>exact H
    | 1,H=>exact H
    | 2,H=>exact H
    | 3,H=>exact H
    | 4,H=>exact H
    | 5,H=>exact H
    | 6,H=>exact H
    | 7,H=>exact H
    | 8,H=>exact H
    | 9,H=>exact H
    | 10,H=>exact (by obtain ⟨r,e,hr⟩:=H;exact ⟨r,e,hr.below HB hr.lt⟩)
    | 11,H=>exact ((H.below HB).mono HB.size)
    | 12,H=>exact H
    | 13,H=>exact ((H.below HB).mono HB.size)
    | 14,H=>exact H
    | 15,H=>exact H
    | 16,H=>exact H
    | 17,H=>exact H
    | _+18,_=>exact trivial
  · refine ⟨?_,?_,?_,?_,?_,?_,?_,?_,?_,?_,?_,?_,?_,?_,?_,?_,?_,?_,trivial⟩
    · -- 0: Op.fieldAddr 28 t6 3
      intro σ W HJ hdep
      simp [Region.binds] at hdep
      have HJ:=hid HJ
      refine wpOp_plain rfl rfl ?_
      go_simp
      exact Left.mk0 (.pointer (some ⟨gs,3,none⟩)) (by first | rfl | simp [updF, *]) HJ.out rfl
    · -- 1: Op.load 22 t42
      intro σ W HJ hdep
      simp [Region.binds] at hdep
      have HJ:=hid HJ
      have kc:=(hrs.out.below HJ.out hrs.out.lt).cell 3
      simp at kc
      refine wpOp_plain rfl rfl ?_
      go_simp
      exact Left.mk0 (.slice (some ⟨b,f,none⟩) n c1) (by first | rfl | simp [updF, *]) HJ.out rfl
    · -- 2: Op.move t2
      intro σ W HJ hdep
      simp [Region.binds] at hdep
      have HJ:=hid HJ
      refine wpOp_plain rfl rfl ?_
      go_simp
      exact Left.mk0 (.int .i64 (k:Int)) (by first | rfl | simp [updF, *]) HJ.out rfl
    · -- 3: Op.indexAddr 22 t43 t44
      intro σ W HJ hdep
      simp [Region.binds] at hdep
      have HJ:=hid HJ
      refine wpOp_plain rfl rfl ?_
      go_simp
      exact Left.mk0 (.pointer (some ⟨b,f+k*4,none⟩)) (by first | rfl | simp [updF, *]) HJ.out rfl
    · -- 4: Op.load 62 t45
      intro σ W HJ hdep
      simp [Region.binds] at hdep
      have HJ:=hid HJ
      have x0:=(HJ.out.cell (p:=⟨b,f+k*4,none⟩) hb1).trans hca.out.1
      have x1:=(HJ.out.cell (p:=⟨b,f+k*4+1,none⟩) hb1).trans hca.out.2.1
      have x2:=(HJ.out.cell (p:=⟨b,f+k*4+2,none⟩) hb1).trans hca.out.2.2.1
      have x3:=(HJ.out.cell (p:=⟨b,f+k*4+3,none⟩) hb1).trans hca.out.2.2.2
      refine wpOp_plain rfl rfl ?_
      go_simp
      exact Left.mk0 (.agg #[.string x.chain,.int .i64 x.trust,.bool x.frozen,.slice ka x.known.length ma]) (by first | rfl | simp [updF, *]) HJ.out rfl
    · -- 5: Op.fieldAddr 28 t6 2
      intro σ W HJ hdep
      simp [Region.binds] at hdep
      have HJ:=hid HJ
      refine wpOp_plain rfl rfl ?_
      go_simp
      exact Left.mk0 (.pointer (some ⟨gs,2,none⟩)) (by first | rfl | simp [updF, *]) HJ.out rfl
    · -- 6: Op.load 3 t47
      intro σ W HJ hdep
      simp [Region.binds] at hdep
      have HJ:=hid HJ
      have kc:=(hrs.out.below HJ.out hrs.out.lt).cell 2
      simp at kc
      refine wpOp_plain rfl rfl ?_
      go_simp
      exact Left.mk0 (.int .i64 s.time) (by first | rfl | simp [updF, *]) HJ.out rfl
    · -- 7: Op.fieldAddr 46 t11 0
      intro σ W HJ hdep
      simp [Region.binds] at hdep
      have HJ:=hid HJ
      refine wpOp_plain rfl rfl ?_
      go_simp
      exact Left.mk0 (.pointer (some ⟨gh,0,none⟩)) (by first | rfl | simp [updF, *]) HJ.out rfl
    · -- 8: Op.load 3 t49
      intro σ W HJ hdep
      simp [Region.binds] at hdep
      have HJ:=hid HJ
      have kc:=(hrh.out.below HJ.out hrh.out.lt).cell 0
      simp at kc
      refine wpOp_plain rfl rfl ?_
      go_simp
      exact Left.mk0 (.int .i64 h.height) (by first | rfl | simp [updF, *]) HJ.out rfl
    · -- 9: Op.move t4
      intro σ W HJ hdep
      simp [Region.binds] at hdep
      have HJ:=hid HJ
      refine wpOp_plain rfl rfl ?_
      go_simp
      exact Left.mk0 (.int .i64 q) (by first | rfl | simp [updF, *]) HJ.out rfl
    · -- 10: Op.buildSlice 130 1 #[(0, t51)]
      intro σ W HJ hdep
      simp [Region.binds] at hdep
      have HJ:=hid HJ
      refine wpOp_plain rfl rfl ?_
      go_simp
      exact Left.mk (.slice (some ⟨W.heap.size,0,none⟩) 1 1) (by first | rfl | simp [updF, *]) ((Below.refl _ _).alloc (Nat.le_refl _) _) HJ.out ⟨W.heap.size,rfl,Row.new _ _ _⟩
    · -- 11: Op.call { value (Operand.func 23), args := #[const (Value.st
      intro σ W HJ hdep
      simp [Region.binds] at hdep
      have HJ:=hid HJ
      obtain ⟨r,er,hrow⟩:∃ r,σ 10=.slice (some ⟨r,0,none⟩) 1 1∧Row W r 3 [.int .i64 q]:=by first | exact hdep | exact hdep.1 | exact hdep.2 | exact hdep.2.1 | exact hdep.2.2 | exact hdep.2.2.1 | exact hdep.2.2.2 | exact hdep.2.2.2.1 | exact hdep.2.2.2.2 | exact hdep.2.2.2.2.1 | exact hdep.2.2.2.2.2 | exact hdep.2.2.2.2.2.1 | exact hdep.2.2.2.2.2.2 | exact hdep.2.2.2.2.2.2.1 | exact hdep.2.2.2.2.2.2.2 | exact hdep.2.2.2.2.2.2.2.1
      have HC:=hid (refKey_any8 ⟨#[99,111,110,110]⟩ [q] r 1 W (by decide) hrow rfl (by decide) (fun n hn=>by simp at hn;omega))
      clear hdep hrow
      refine wpOp_plain rfl rfl ?_
      go_simp
      refine HC.out.mono ?_
      rintro e w2 ⟨v,rfl,hown,hb2⟩
      exact Left.mk v (by first | rfl | simp [updF, *]) hb2 HJ.out hown
    · -- 12: Op.load 58 t16
      intro σ W HJ hdep
      simp [Region.binds] at hdep
      have HJ:=hid HJ
      have k0:=(hro.out.below HJ.out hro.out.lt).cell 0
      have k1:=(hro.out.below HJ.out hro.out.lt).cell 1
      have k2:=(hro.out.below HJ.out hro.out.lt).cell 2
      have k3:=(hro.out.below HJ.out hro.out.lt).cell 3
      simp at k0
      simp at k1
      simp at k2
      simp at k3
      refine wpOp_plain rfl rfl ?_
      go_simp
      exact Left.mk0 (.agg #[.int .i64 o.state,.int .i64 o.client,.int .i64 o.oclient,.int .i64 o.oconn]) (by first | rfl | simp [updF, *]) HJ.out rfl
    · -- 13: Op.call { value (Operand.func 24), args := #[t54], argTypes 
      intro σ W HJ hdep
      simp [Region.binds] at hdep
      have HJ:=hid HJ
      have dl:σ 12=.agg #[.int .i64 o.state,.int .i64 o.client,.int .i64 o.oclient,.int .i64 o.oconn]:=by first | exact hdep | exact hdep.1 | exact hdep.2 | exact hdep.2.1 | exact hdep.2.2 | exact hdep.2.2.1 | exact hdep.2.2.2 | exact hdep.2.2.2.1 | exact hdep.2.2.2.2 | exact hdep.2.2.2.2.1 | exact hdep.2.2.2.2.2 | exact hdep.2.2.2.2.2.1 | exact hdep.2.2.2.2.2.2 | exact hdep.2.2.2.2.2.2.1 | exact hdep.2.2.2.2.2.2.2 | exact hdep.2.2.2.2.2.2.2.1
      clear hdep
      have HC:=hid (refConn_any o ho.out W)
      refine wpOp_plain rfl rfl ?_
      go_simp
      refine HC.out.mono ?_
      rintro e w2 ⟨v,rfl,hown,hb2⟩
      exact Left.mk v (by first | rfl | simp [updF, *]) hb2 HJ.out hown
    · -- 14: Op.fieldAddr 46 t11 1
      intro σ W HJ hdep
      simp [Region.binds] at hdep
      have HJ:=hid HJ
      refine wpOp_plain rfl rfl ?_
      go_simp
      exact Left.mk0 (.pointer (some ⟨gh,1,none⟩)) (by first | rfl | simp [updF, *]) HJ.out rfl
    · -- 15: Op.load 42 t56
      intro σ W HJ hdep
      simp [Region.binds] at hdep
      have HJ:=hid HJ
      have k1:=(hrh.out.below HJ.out hrh.out.lt).cell 1
      have k2:=(hrh.out.below HJ.out hrh.out.lt).cell 2
      have k3:=(hrh.out.below HJ.out hrh.out.lt).cell 3
      have k4:=(hrh.out.below HJ.out hrh.out.lt).cell 4
      have k5:=(hrh.out.below HJ.out hrh.out.lt).cell 5
      simp at k1
      simp at k2
      simp at k3
      simp at k4
      simp at k5
      refine wpOp_plain rfl rfl ?_
      go_simp
      exact Left.mk0 (.agg #[.int .i64 h.prf.index,.int .i64 h.prf.size,.slice q1 h.prf.key.length e1,.slice q2 h.prf.val.length e2,.slice q3 h.prf.path.length e3]) (by first | rfl | simp [updF, *]) HJ.out rfl
    · -- 16: Op.call { value (Operand.func 22), args := #[t46, t48, t50, 
      intro σ W HJ hdep
      simp [Region.binds] at hdep
      have HJ:=hid HJ
      have hkk:Bytes W W.heap.size (σ 11) (keyL kwConn [q.toNat]):=by first | exact hdep | exact hdep.1 | exact hdep.2 | exact hdep.2.1 | exact hdep.2.2 | exact hdep.2.2.1 | exact hdep.2.2.2 | exact hdep.2.2.2.1 | exact hdep.2.2.2.2 | exact hdep.2.2.2.2.1 | exact hdep.2.2.2.2.2 | exact hdep.2.2.2.2.2.1 | exact hdep.2.2.2.2.2.2 | exact hdep.2.2.2.2.2.2.1 | exact hdep.2.2.2.2.2.2.2 | exact hdep.2.2.2.2.2.2.2.1
      have hvv:Bytes W W.heap.size (σ 13) (connB o):=by first | exact hdep | exact hdep.1 | exact hdep.2 | exact hdep.2.1 | exact hdep.2.2 | exact hdep.2.2.1 | exact hdep.2.2.2 | exact hdep.2.2.2.1 | exact hdep.2.2.2.2 | exact hdep.2.2.2.2.1 | exact hdep.2.2.2.2.2 | exact hdep.2.2.2.2.2.1 | exact hdep.2.2.2.2.2.2 | exact hdep.2.2.2.2.2.2.1 | exact hdep.2.2.2.2.2.2.2 | exact hdep.2.2.2.2.2.2.2.1
      have dc:σ 4=.agg #[.string x.chain,.int .i64 x.trust,.bool x.frozen,.slice ka x.known.length ma]:=by first | exact hdep | exact hdep.1 | exact hdep.2 | exact hdep.2.1 | exact hdep.2.2 | exact hdep.2.2.1 | exact hdep.2.2.2 | exact hdep.2.2.2.1 | exact hdep.2.2.2.2 | exact hdep.2.2.2.2.1 | exact hdep.2.2.2.2.2 | exact hdep.2.2.2.2.2.1 | exact hdep.2.2.2.2.2.2 | exact hdep.2.2.2.2.2.2.1 | exact hdep.2.2.2.2.2.2.2 | exact hdep.2.2.2.2.2.2.2.1
      have dt:σ 6=.int .i64 s.time:=by first | exact hdep | exact hdep.1 | exact hdep.2 | exact hdep.2.1 | exact hdep.2.2 | exact hdep.2.2.1 | exact hdep.2.2.2 | exact hdep.2.2.2.1 | exact hdep.2.2.2.2 | exact hdep.2.2.2.2.1 | exact hdep.2.2.2.2.2 | exact hdep.2.2.2.2.2.1 | exact hdep.2.2.2.2.2.2 | exact hdep.2.2.2.2.2.2.1 | exact hdep.2.2.2.2.2.2.2 | exact hdep.2.2.2.2.2.2.2.1
      have dh:σ 8=.int .i64 h.height:=by first | exact hdep | exact hdep.1 | exact hdep.2 | exact hdep.2.1 | exact hdep.2.2 | exact hdep.2.2.1 | exact hdep.2.2.2 | exact hdep.2.2.2.1 | exact hdep.2.2.2.2 | exact hdep.2.2.2.2.1 | exact hdep.2.2.2.2.2 | exact hdep.2.2.2.2.2.1 | exact hdep.2.2.2.2.2.2 | exact hdep.2.2.2.2.2.2.1 | exact hdep.2.2.2.2.2.2.2 | exact hdep.2.2.2.2.2.2.2.1
      have dp:σ 15=.agg #[.int .i64 h.prf.index,.int .i64 h.prf.size,.slice q1 h.prf.key.length e1,.slice q2 h.prf.val.length e2,.slice q3 h.prf.path.length e3]:=by first | exact hdep | exact hdep.1 | exact hdep.2 | exact hdep.2.1 | exact hdep.2.2 | exact hdep.2.2.1 | exact hdep.2.2.2 | exact hdep.2.2.2.1 | exact hdep.2.2.2.2 | exact hdep.2.2.2.2.1 | exact hdep.2.2.2.2.2 | exact hdep.2.2.2.2.2.1 | exact hdep.2.2.2.2.2.2 | exact hdep.2.2.2.2.2.2.1 | exact hdep.2.2.2.2.2.2.2 | exact hdep.2.2.2.2.2.2.2.1
      have HC:=hid (MemberC.z refMemberC x s.time h.height (keyL kwConn [q.toNat]) (connB o) h.prf (.agg #[.string x.chain,.int .i64 x.trust,.bool x.frozen,.slice ka x.known.length ma]) (σ 11) (σ 13) (.agg #[.int .i64 h.prf.index,.int .i64 h.prf.size,.slice q1 h.prf.key.length e1,.slice q2 h.prf.val.length e2,.slice q3 h.prf.path.length e3]) W.heap.size W (htab.out.past HJ.out) (Nat.le_refl _) ((hcv.out.below (HJ.out.mono hN)).mono (Nat.le_trans hN HJ.out.size)) hkk hvv ((hpv.out.below (HJ.out.mono hN)).mono (Nat.le_trans hN HJ.out.size)) hcf.out hkl hvl hpf.out hz.out)
      clear hdep hkk hvv
      refine wpOp_plain rfl rfl ?_
      go_simp
      refine (HC.out).mono ?_
      rintro e w2 ⟨rfl,hb2⟩
      exact Left.mk (.int .i64 0) (by first | rfl | simp [updF, *]) hb2 HJ.out rfl
    · -- 17: Op.binOp BinOp.neq 29 t58 (const (0:i64)) 29
      intro σ W HJ hdep
      simp [Region.binds] at hdep
      have HJ:=hid HJ
      refine wpOp_plain rfl rfl ?_
      go_simp
      exact Left.mk0 (.bool false) (by first | rfl | simp [updF, *]) HJ.out rfl
  · intro σ w' hb hg
    exact hQ.out σ w' hb (by first | exact ⟨hg 17 (by decide)⟩ | exact hg 17 (by decide))
set_option maxRecDepth 100000 in
set_option maxHeartbeats 4000000 in
theorem shownR12 {y0 y2 y3 y5 y7 y8 y9 y10 y12 y13 y14 y15 y16 y18 y21 y22 y23 y24 y25 y26 y27 y28 y29 y30 y31 y32 y33 y34 y35 y36 y37 y38 y39 y40 y41 y42 y43 y44 y45 y46 y47 y48 y49 y50 y51 y52 y53 y54 y55 y56 y57 y58 y59 y60 y61 y62 y63 y64 y65 y66 y67 y68 y69 y70 y71 y72 y73 y74 y75 y76 y77 y78 y79 y80 y114 y115 y116 y117 y118 y119 y120 y121 y122 y123 y124 y125 y126 y127 y128 y129 y130 y131 y132 y133 y134 y135 y136 y137 y138 y139 y140 y141 y142 y143 y144 y145 y146 y147 y148 y149 y150 y151 y152 y153 y154 y155 y156 y157 y158 y159 y160 y161 y162 y163 y164 y165 y166 y167 z81 z82 z83 z84 z85 z86 z87 z88 z89 z90 z91 z92 z93 z94 z95 z96 z97 z98 z99 z100 z101 z102 z103 z104 z105 z106 z107 z108 z109 z110 z111 z112 z113:Value} {gs go gh gt gc N:Nat} (s:St) (x:Cl) (k n b f c1 ma:Nat) (ka o2 o3 o4 o5 o6 o7:Option Addr) (c2 c3 c4 c5 c6 c7:Nat) (h:Sh) (q:Int) (o:Cn) (q1 q2 q3 r1 r2 r3 r4 r5 r6:Option Addr) (e1 e2 e3 s1 s2 s3 s4 s5 s6:Nat) (yo yq:Int) (j bt ft nt ct:Nat) (tn0 tn1 tn2 tn3 tn5 tn6 tn7 tn8 tn9:Value) {w:World} (hN:N≤w.heap.size) (hrs:Hid (Row w gs 28 [.string s.name,.int .i64 s.height,.int .i64 s.time,.slice (some ⟨b,f,none⟩) n c1,.slice o2 s.conns.length c2,.slice o3 s.chans.length c3,.slice o4 s.sent.length c4,.slice o5 s.got.length c5,.slice o6 s.acks.length c6,.slice o7 s.purses.length c7])) (_hlt:(k:Int)<(n:Int)) (hb1:b<w.heap.size) (hca:Hid (w.cell? ⟨b,f+k*4,none⟩=some (.string x.chain)∧w.cell? ⟨b,f+k*4+1,none⟩=some (.int .i64 x.trust)∧w.cell? ⟨b,f+k*4+2,none⟩=some (.bool x.frozen)∧w.cell? ⟨b,f+k*4+3,none⟩=some (.slice ka x.known.length ma))) (hcv:Hid (ClV w N (.agg #[.string x.chain,.int .i64 x.trust,.bool x.frozen,.slice ka x.known.length ma]) x)) (hrh:Hid (Row w gh 46 [.int .i64 h.height,.int .i64 h.prf.index,.int .i64 h.prf.size,.slice q1 h.prf.key.length e1,.slice q2 h.prf.val.length e2,.slice q3 h.prf.path.length e3,.bool h.gap.hasL,.bool h.gap.hasR,.int .i64 h.gap.left.index,.int .i64 h.gap.left.size,.slice r1 h.gap.left.key.length s1,.slice r2 h.gap.left.val.length s2,.slice r3 h.gap.left.path.length s3,.int .i64 h.gap.right.index,.int .i64 h.gap.right.size,.slice r4 h.gap.right.key.length s4,.slice r5 h.gap.right.val.length s5,.slice r6 h.gap.right.path.length s6])) (hpv:Hid (PrfV w N (.agg #[.int .i64 h.prf.index,.int .i64 h.prf.size,.slice q1 h.prf.key.length e1,.slice q2 h.prf.val.length e2,.slice q3 h.prf.path.length e3]) h.prf)) (htab:Hid (tableAt w)) (hcf:Hid x.fits) (hpf:Hid h.prf.fits) (hro:Hid (Row w go 58 [.int .i64 o.state,.int .i64 o.client,.int .i64 o.oclient,.int .i64 o.oconn])) (_hq:0≤q∧q≤1000000000000) (ho:Hid (wrongCn o=0)) (hz:Hid (ShownN x s.time h.height (fun r=>h.prf.key=keyL kwConn [q.toNat]∧h.prf.val=connB o∧shownB r h.prf) 0)) (hkl:(keyL kwConn [q.toNat]).length≤140737488351232) (hvl:(connB o).length≤140737488351232) (hrc:Hid (Row w gc 58 [.int .i64 1,.int .i64 (k:Int),.int .i64 yo,.int .i64 yq])) (hrt:Hid (Row w gt 28 [tn0,tn1,tn2,tn3,.slice (some ⟨bt,ft,none⟩) nt ct,tn5,tn6,tn7,tn8,tn9])) (_hjt:(j:Int)<(nt:Int)) (hbt:bt<w.heap.size) (hct:Hid (w.cell? ⟨bt,ft+j*4,none⟩=some (.int .i64 3))) (Q:Exit→Act→World→Prop)
    (hQ:Hid (∀ (σ:Nat→Value) (w':World),Below w.heap.size w w'→/-32-/ σ 32=.bool false→Q .normal ⟨#[y0,.int .i64 (j:Int),y2,y3,.int .i64 q,y5,.pointer (some ⟨gs,0,none⟩),y7,y8,y9,y10,.pointer (some ⟨gh,0,none⟩),y12,y13,y14,y15,y16,.pointer (some ⟨gt,0,none⟩),y18,.pointer (some ⟨gc,0,none⟩),.pointer (some ⟨go,0,none⟩),y21,y22,y23,y24,y25,y26,y27,y28,y29,y30,y31,y32,y33,y34,y35,y36,y37,y38,y39,y40,y41,y42,y43,y44,y45,y46,y47,y48,y49,y50,y51,y52,y53,y54,y55,y56,y57,y58,y59,y60,y61,y62,y63,y64,y65,y66,y67,y68,y69,y70,y71,y72,y73,y74,y75,y76,y77,y78,y79,y80,σ 0,σ 1,σ 2,σ 3,σ 4,σ 5,σ 6,σ 7,σ 8,σ 9,σ 10,σ 11,σ 12,σ 13,σ 14,σ 15,σ 16,σ 17,σ 18,σ 19,σ 20,σ 21,σ 22,σ 23,σ 24,σ 25,σ 26,σ 27,σ 28,σ 29,σ 30,σ 31,σ 32,y114,y115,y116,y117,y118,y119,y120,y121,y122,y123,y124,y125,y126,y127,y128,y129,y130,y131,y132,y133,y134,y135,y136,y137,y138,y139,y140,y141,y142,y143,y144,y145,y146,y147,y148,y149,y150,y151,y152,y153,y154,y155,y156,y157,y158,y159,y160,y161,y162,y163,y164,y165,y166,y167],[]⟩ w')) :
    Code.wp Tryz.prog (.region 12 ((Tryz.f5.body.bind (regOf 12)).getD #[]) true) Q ⟨#[y0,.int .i64 (j:Int),y2,y3,.int .i64 q,y5,.pointer (some ⟨gs,0,none⟩),y7,y8,y9,y10,.pointer (some ⟨gh,0,none⟩),y12,y13,y14,y15,y16,.pointer (some ⟨gt,0,none⟩),y18,.pointer (some ⟨gc,0,none⟩),.pointer (some ⟨go,0,none⟩),y21,y22,y23,y24,y25,y26,y27,y28,y29,y30,y31,y32,y33,y34,y35,y36,y37,y38,y39,y40,y41,y42,y43,y44,y45,y46,y47,y48,y49,y50,y51,y52,y53,y54,y55,y56,y57,y58,y59,y60,y61,y62,y63,y64,y65,y66,y67,y68,y69,y70,y71,y72,y73,y74,y75,y76,y77,y78,y79,y80,z81,z82,z83,z84,z85,z86,z87,z88,z89,z90,z91,z92,z93,z94,z95,z96,z97,z98,z99,z100,z101,z102,z103,z104,z105,z106,z107,z108,z109,z110,z111,z112,z113,y114,y115,y116,y117,y118,y119,y120,y121,y122,y123,y124,y125,y126,y127,y128,y129,y130,y131,y132,y133,y134,y135,y136,y137,y138,y139,y140,y141,y142,y143,y144,y145,y146,y147,y148,y149,y150,y151,y152,y153,y154,y155,y156,y157,y158,y159,y160,y161,y162,y163,y164,y165,y166,y167],[]⟩ w:=by
  conv=>arg 2;arg 2;whnf
  conv=>arg 4;dsimp only
  refine region_grows (by kernel_rfl) (fun σ=>#[y0,.int .i64 (j:Int),y2,y3,.int .i64 q,y5,.pointer (some ⟨gs,0,none⟩),y7,y8,y9,y10,.pointer (some ⟨gh,0,none⟩),y12,y13,y14,y15,y16,.pointer (some ⟨gt,0,none⟩),y18,.pointer (some ⟨gc,0,none⟩),.pointer (some ⟨go,0,none⟩),y21,y22,y23,y24,y25,y26,y27,y28,y29,y30,y31,y32,y33,y34,y35,y36,y37,y38,y39,y40,y41,y42,y43,y44,y45,y46,y47,y48,y49,y50,y51,y52,y53,y54,y55,y56,y57,y58,y59,y60,y61,y62,y63,y64,y65,y66,y67,y68,y69,y70,y71,y72,y73,y74,y75,y76,y77,y78,y79,y80,σ 0,σ 1,σ 2,σ 3,σ 4,σ 5,σ 6,σ 7,σ 8,σ 9,σ 10,σ 11,σ 12,σ 13,σ 14,σ 15,σ 16,σ 17,σ 18,σ 19,σ 20,σ 21,σ 22,σ 23,σ 24,σ 25,σ 26,σ 27,σ 28,σ 29,σ 30,σ 31,σ 32,y114,y115,y116,y117,y118,y119,y120,y121,y122,y123,y124,y125,y126,y127,y128,y129,y130,y131,y132,y133,y134,y135,y136,y137,y138,y139,y140,y141,y142,y143,y144,y145,y146,y147,y148,y149,y150,y151,y152,y153,y154,y155,y156,y157,y158,y159,y160,y161,y162,y163,y164,y165,y166,y167]) (fun i=>([z81,z82,z83,z84,z85,z86,z87,z88,z89,z90,z91,z92,z93,z94,z95,z96,z97,z98,z99,z100,z101,z102,z103,z104,z105,z106,z107,z108,z109,z110,z111,z112,z113]:List Value).getD i undef) rfl (fun i X W=>match i with
    | 0=>X=.pointer (some ⟨gc,0,none⟩)
    | 1=>X=.int .i64 1
    | 2=>X=.bool false
    | 3=>X=.bool false
    | 4=>X=.pointer (some ⟨gt,4,none⟩)
    | 5=>X=.slice (some ⟨bt,ft,none⟩) nt ct
    | 6=>X=.int .i64 (j:Int)
    | 7=>X=.pointer (some ⟨bt,ft+j*4,none⟩)
    | 8=>X=.pointer (some ⟨bt,ft+j*4,none⟩)
    | 9=>X=.int .i64 3
    | 10=>X=.bool false
    | 11=>X=.bool false
    | 12=>X=.bool false
    | 13=>X=.pointer (some ⟨gs,3,none⟩)
    | 14=>X=.slice (some ⟨b,f,none⟩) n c1
    | 15=>X=.pointer (some ⟨gc,1,none⟩)
    | 16=>X=.int .i64 (k:Int)
    | 17=>X=.pointer (some ⟨b,f+k*4,none⟩)
    | 18=>X=.agg #[.string x.chain,.int .i64 x.trust,.bool x.frozen,.slice ka x.known.length ma]
    | 19=>X=.pointer (some ⟨gs,2,none⟩)
    | 20=>X=.int .i64 s.time
    | 21=>X=.pointer (some ⟨gh,0,none⟩)
    | 22=>X=.int .i64 h.height
    | 23=>X=.int .i64 q
    | 24=>∃ r,X=.slice (some ⟨r,0,none⟩) 1 1∧Row W r 3 [.int .i64 q]
    | 25=>Bytes W W.heap.size X (keyL kwConn [q.toNat])
    | 26=>X=.agg #[.int .i64 o.state,.int .i64 o.client,.int .i64 o.oclient,.int .i64 o.oconn]
    | 27=>Bytes W W.heap.size X (connB o)
    | 28=>X=.pointer (some ⟨gh,1,none⟩)
    | 29=>X=.agg #[.int .i64 h.prf.index,.int .i64 h.prf.size,.slice q1 h.prf.key.length e1,.slice q2 h.prf.val.length e2,.slice q3 h.prf.path.length e3]
    | 30=>X=.int .i64 0
    | 31=>X=.bool false
    | 32=>X=.bool false
    | _=>True) ?_ (by kernel_rfl) ?_ ?_
  · intro i X W W' HB H
    match i,H with
    | 0,H=>exact H
    | 1,H=>exact H
    | 2,H=>exact H
    | 3,H=>exact H
    | 4,H=>exact H
    | 5,H=>exact H
    | 6,H=>exact H
    | 7,H=>exact H
    | 8,H=>exact H
    | 9,H=>exact H
    | 10,H=>exact H
    | 11,H=>exact H
    | 12,H=>exact H
    | 13,H=>exact H
    | 14,H=>exact H
    | 15,H=>exact H
    | 16,H=>exact H
    | 17,H=>exact H
    | 18,H=>exact H
    | 19,H=>exact H
    | 20,H=>exact H
    | 21,H=>exact H
    | 22,H=>exact H
    | 23,H=>exact H
    | 24,H=>exact (by obtain ⟨r,e,hr⟩:=H;exact ⟨r,e,hr.below HB hr.lt⟩)
    | 25,H=>exact ((H.below HB).mono HB.size)
    | 26,H=>exact H
    | 27,H=>exact ((H.below HB).mono HB.size)
    | 28,H=>exact H
    | 29,H=>exact H
    | 30,H=>exact H
    | 31,H=>exact H
    | 32,H=>exact H
    | _+33,_=>exact trivial
  · refine ⟨?_,?_,?_,?_,?_,?_,?_,?_,?_,?_,?_,?_,?_,?_,?_,?_,?_,?_,?_,?_,?_,?_,?_,?_,?_,?_,?_,?_,?_,?_,?_,?_,?_,trivial⟩
    · -- 0: Op.fieldAddr 58 t19 0
      intro σ W HJ hdep
      simp [Region.binds] at hdep
      have HJ:=hid HJ
      refine wpOp_plain rfl rfl ?_
      go_simp
      exact Left.mk0 (.pointer (some ⟨gc,0,none⟩)) (by first | rfl | simp [updF, *]) HJ.out rfl
    · -- 1: Op.load 3 t81
      intro σ W HJ hdep
      simp [Region.binds] at hdep
      have HJ:=hid HJ
      have kc:=(hrc.out.below HJ.out hrc.out.lt).cell 0
      simp at kc
      refine wpOp_plain rfl rfl ?_
      go_simp
      exact Left.mk0 (.int .i64 1) (by first | rfl | simp [updF, *]) HJ.out rfl
    · -- 2: Op.binOp BinOp.neq 3 t82 (const (1:i64)) 3
      intro σ W HJ hdep
      simp [Region.binds] at hdep
      have HJ:=hid HJ
      refine wpOp_plain rfl rfl ?_
      go_simp
      exact Left.mk0 (.bool false) (by first | rfl | simp [updF, *]) HJ.out rfl
    · -- 3: Op.move t83
      intro σ W HJ hdep
      simp [Region.binds] at hdep
      have HJ:=hid HJ
      refine wpOp_plain rfl rfl ?_
      go_simp
      exact Left.mk0 (.bool false) (by first | rfl | simp [updF, *]) HJ.out rfl
    · -- 4: Op.fieldAddr 28 t17 4   [guarded: some (3, false)]
      intro σ W HJ hdep
      simp [Region.binds] at hdep
      have HJ:=hid HJ
      refine wpOp_wants9 rfl (by simp [Region.wanted,yielded, *]) ?_
      go_simp
      exact Left.mk0 (.pointer (some ⟨gt,4,none⟩)) (by first | rfl | simp [updF, *]) HJ.out rfl
    · -- 5: Op.load 23 t85   [guarded: some (3, false)]
      intro σ W HJ hdep
      simp [Region.binds] at hdep
      have HJ:=hid HJ
      have kc:=(hrt.out.below HJ.out hrt.out.lt).cell 4
      simp at kc
      refine wpOp_wants9 rfl (by simp [Region.wanted,yielded, *]) ?_
      go_simp
      exact Left.mk0 (.slice (some ⟨bt,ft,none⟩) nt ct) (by first | rfl | simp [updF, *]) HJ.out rfl
    · -- 6: Op.move t1   [guarded: some (3, false)]
      intro σ W HJ hdep
      simp [Region.binds] at hdep
      have HJ:=hid HJ
      refine wpOp_wants9 rfl (by simp [Region.wanted,yielded, *]) ?_
      go_simp
      exact Left.mk0 (.int .i64 (j:Int)) (by first | rfl | simp [updF, *]) HJ.out rfl
    · -- 7: Op.indexAddr 23 t86 t87   [guarded: some (3, false)]
      intro σ W HJ hdep
      simp [Region.binds] at hdep
      have HJ:=hid HJ
      refine wpOp_wants9 rfl (by simp [Region.wanted,yielded, *]) ?_
      go_simp
      exact Left.mk0 (.pointer (some ⟨bt,ft+j*4,none⟩)) (by first | rfl | simp [updF, *]) HJ.out rfl
    · -- 8: Op.fieldAddr 58 t88 0   [guarded: some (3, false)]
      intro σ W HJ hdep
      simp [Region.binds] at hdep
      have HJ:=hid HJ
      refine wpOp_wants9 rfl (by simp [Region.wanted,yielded, *]) ?_
      go_simp
      exact Left.mk0 (.pointer (some ⟨bt,ft+j*4,none⟩)) (by first | rfl | simp [updF, *]) HJ.out rfl
    · -- 9: Op.load 3 t89   [guarded: some (3, false)]
      intro σ W HJ hdep
      simp [Region.binds] at hdep
      have HJ:=hid HJ
      have x0:=(HJ.out.cell (p:=⟨bt,ft+j*4,none⟩) hbt).trans hct.out
      refine wpOp_wants9 rfl (by simp [Region.wanted,yielded, *]) ?_
      go_simp
      exact Left.mk0 (.int .i64 3) (by first | rfl | simp [updF, *]) HJ.out rfl
    · -- 10: Op.binOp BinOp.neq 3 t90 (const (3:i64)) 3   [guarded: some 
      intro σ W HJ hdep
      simp [Region.binds] at hdep
      have HJ:=hid HJ
      refine wpOp_wants9 rfl (by simp [Region.wanted,yielded, *]) ?_
      go_simp
      exact Left.mk0 (.bool false) (by first | rfl | simp [updF, *]) HJ.out rfl
    · -- 11: Op.pick t84 (const (Value.bool true)) t91
      intro σ W HJ hdep
      simp [Region.binds] at hdep
      have HJ:=hid HJ
      refine wpOp_plain rfl rfl ?_
      go_simp
      exact Left.mk0 (.bool false) (by first | rfl | simp [updF, *]) HJ.out rfl
    · -- 12: Op.move t92
      intro σ W HJ hdep
      simp [Region.binds] at hdep
      have HJ:=hid HJ
      refine wpOp_plain rfl rfl ?_
      go_simp
      exact Left.mk0 (.bool false) (by first | rfl | simp [updF, *]) HJ.out rfl
    · -- 13: Op.fieldAddr 28 t6 3   [guarded: some (12, false)]
      intro σ W HJ hdep
      simp [Region.binds] at hdep
      have HJ:=hid HJ
      refine wpOp_wants9 rfl (by simp [Region.wanted,yielded, *]) ?_
      go_simp
      exact Left.mk0 (.pointer (some ⟨gs,3,none⟩)) (by first | rfl | simp [updF, *]) HJ.out rfl
    · -- 14: Op.load 22 t94   [guarded: some (12, false)]
      intro σ W HJ hdep
      simp [Region.binds] at hdep
      have HJ:=hid HJ
      have kc:=(hrs.out.below HJ.out hrs.out.lt).cell 3
      simp at kc
      refine wpOp_wants9 rfl (by simp [Region.wanted,yielded, *]) ?_
      go_simp
      exact Left.mk0 (.slice (some ⟨b,f,none⟩) n c1) (by first | rfl | simp [updF, *]) HJ.out rfl
    · -- 15: Op.fieldAddr 58 t19 1   [guarded: some (12, false)]
      intro σ W HJ hdep
      simp [Region.binds] at hdep
      have HJ:=hid HJ
      refine wpOp_wants9 rfl (by simp [Region.wanted,yielded, *]) ?_
      go_simp
      exact Left.mk0 (.pointer (some ⟨gc,1,none⟩)) (by first | rfl | simp [updF, *]) HJ.out rfl
    · -- 16: Op.load 3 t96   [guarded: some (12, false)]
      intro σ W HJ hdep
      simp [Region.binds] at hdep
      have HJ:=hid HJ
      have kc:=(hrc.out.below HJ.out hrc.out.lt).cell 1
      simp at kc
      refine wpOp_wants9 rfl (by simp [Region.wanted,yielded, *]) ?_
      go_simp
      exact Left.mk0 (.int .i64 (k:Int)) (by first | rfl | simp [updF, *]) HJ.out rfl
    · -- 17: Op.indexAddr 22 t95 t97   [guarded: some (12, false)]
      intro σ W HJ hdep
      simp [Region.binds] at hdep
      have HJ:=hid HJ
      refine wpOp_wants9 rfl (by simp [Region.wanted,yielded, *]) ?_
      go_simp
      exact Left.mk0 (.pointer (some ⟨b,f+k*4,none⟩)) (by first | rfl | simp [updF, *]) HJ.out rfl
    · -- 18: Op.load 62 t98   [guarded: some (12, false)]
      intro σ W HJ hdep
      simp [Region.binds] at hdep
      have HJ:=hid HJ
      have x0:=(HJ.out.cell (p:=⟨b,f+k*4,none⟩) hb1).trans hca.out.1
      have x1:=(HJ.out.cell (p:=⟨b,f+k*4+1,none⟩) hb1).trans hca.out.2.1
      have x2:=(HJ.out.cell (p:=⟨b,f+k*4+2,none⟩) hb1).trans hca.out.2.2.1
      have x3:=(HJ.out.cell (p:=⟨b,f+k*4+3,none⟩) hb1).trans hca.out.2.2.2
      refine wpOp_wants9 rfl (by simp [Region.wanted,yielded, *]) ?_
      go_simp
      exact Left.mk0 (.agg #[.string x.chain,.int .i64 x.trust,.bool x.frozen,.slice ka x.known.length ma]) (by first | rfl | simp [updF, *]) HJ.out rfl
    · -- 19: Op.fieldAddr 28 t6 2   [guarded: some (12, false)]
      intro σ W HJ hdep
      simp [Region.binds] at hdep
      have HJ:=hid HJ
      refine wpOp_wants9 rfl (by simp [Region.wanted,yielded, *]) ?_
      go_simp
      exact Left.mk0 (.pointer (some ⟨gs,2,none⟩)) (by first | rfl | simp [updF, *]) HJ.out rfl
    · -- 20: Op.load 3 t100   [guarded: some (12, false)]
      intro σ W HJ hdep
      simp [Region.binds] at hdep
      have HJ:=hid HJ
      have kc:=(hrs.out.below HJ.out hrs.out.lt).cell 2
      simp at kc
      refine wpOp_wants9 rfl (by simp [Region.wanted,yielded, *]) ?_
      go_simp
      exact Left.mk0 (.int .i64 s.time) (by first | rfl | simp [updF, *]) HJ.out rfl
    · -- 21: Op.fieldAddr 46 t11 0   [guarded: some (12, false)]
      intro σ W HJ hdep
      simp [Region.binds] at hdep
      have HJ:=hid HJ
      refine wpOp_wants9 rfl (by simp [Region.wanted,yielded, *]) ?_
      go_simp
      exact Left.mk0 (.pointer (some ⟨gh,0,none⟩)) (by first | rfl | simp [updF, *]) HJ.out rfl
    · -- 22: Op.load 3 t102   [guarded: some (12, false)]
      intro σ W HJ hdep
      simp [Region.binds] at hdep
      have HJ:=hid HJ
      have kc:=(hrh.out.below HJ.out hrh.out.lt).cell 0
      simp at kc
      refine wpOp_wants9 rfl (by simp [Region.wanted,yielded, *]) ?_
      go_simp
      exact Left.mk0 (.int .i64 h.height) (by first | rfl | simp [updF, *]) HJ.out rfl
    · -- 23: Op.move t4   [guarded: some (12, false)]
      intro σ W HJ hdep
      simp [Region.binds] at hdep
      have HJ:=hid HJ
      refine wpOp_wants9 rfl (by simp [Region.wanted,yielded, *]) ?_
      go_simp
      exact Left.mk0 (.int .i64 q) (by first | rfl | simp [updF, *]) HJ.out rfl
    · -- 24: Op.buildSlice 130 1 #[(0, t104)]   [guarded: some (12, false
      intro σ W HJ hdep
      simp [Region.binds] at hdep
      have HJ:=hid HJ
      have eg:σ 12=.bool false:=by first | exact hdep | exact hdep.1 | exact hdep.2 | exact hdep.2.1 | exact hdep.2.2 | exact hdep.2.2.1 | exact hdep.2.2.2 | exact hdep.2.2.2.1 | exact hdep.2.2.2.2 | exact hdep.2.2.2.2.1 | exact hdep.2.2.2.2.2 | exact hdep.2.2.2.2.2.1 | exact hdep.2.2.2.2.2.2 | exact hdep.2.2.2.2.2.2.1 | exact hdep.2.2.2.2.2.2.2 | exact hdep.2.2.2.2.2.2.2.1
      refine wpOp_wants9 rfl (by simp [Region.wanted,yielded, *]) ?_
      go_simp
      exact Left.mk (.slice (some ⟨W.heap.size,0,none⟩) 1 1) (by first | rfl | simp [updF, *]) ((Below.refl _ _).alloc (Nat.le_refl _) _) HJ.out ⟨W.heap.size,rfl,Row.new _ _ _⟩
    · -- 25: Op.call { value (Operand.func 23), args := #[const (Value.st
      intro σ W HJ hdep
      simp [Region.binds] at hdep
      have HJ:=hid HJ
      have eg:σ 12=.bool false:=by first | exact hdep | exact hdep.1 | exact hdep.2 | exact hdep.2.1 | exact hdep.2.2 | exact hdep.2.2.1 | exact hdep.2.2.2 | exact hdep.2.2.2.1 | exact hdep.2.2.2.2 | exact hdep.2.2.2.2.1 | exact hdep.2.2.2.2.2 | exact hdep.2.2.2.2.2.1 | exact hdep.2.2.2.2.2.2 | exact hdep.2.2.2.2.2.2.1 | exact hdep.2.2.2.2.2.2.2 | exact hdep.2.2.2.2.2.2.2.1
      obtain ⟨r,er,hrow⟩:∃ r,σ 24=.slice (some ⟨r,0,none⟩) 1 1∧Row W r 3 [.int .i64 q]:=by first | exact hdep | exact hdep.1 | exact hdep.2 | exact hdep.2.1 | exact hdep.2.2 | exact hdep.2.2.1 | exact hdep.2.2.2 | exact hdep.2.2.2.1 | exact hdep.2.2.2.2 | exact hdep.2.2.2.2.1 | exact hdep.2.2.2.2.2 | exact hdep.2.2.2.2.2.1 | exact hdep.2.2.2.2.2.2 | exact hdep.2.2.2.2.2.2.1 | exact hdep.2.2.2.2.2.2.2 | exact hdep.2.2.2.2.2.2.2.1
      have HC:=hid (refKey_any8 ⟨#[99,111,110,110]⟩ [q] r 1 W (by decide) hrow rfl (by decide) (fun n hn=>by simp at hn;omega))
      clear hdep hrow
      refine wpOp_wants9 rfl (by simp [Region.wanted,yielded, *]) ?_
      go_simp
      refine HC.out.mono ?_
      rintro e w2 ⟨v,rfl,hown,hb2⟩
      exact Left.mk v (by first | rfl | simp [updF, *]) hb2 HJ.out hown
    · -- 26: Op.load 58 t20   [guarded: some (12, false)]
      intro σ W HJ hdep
      simp [Region.binds] at hdep
      have HJ:=hid HJ
      have k0:=(hro.out.below HJ.out hro.out.lt).cell 0
      have k1:=(hro.out.below HJ.out hro.out.lt).cell 1
      have k2:=(hro.out.below HJ.out hro.out.lt).cell 2
      have k3:=(hro.out.below HJ.out hro.out.lt).cell 3
      simp at k0
      simp at k1
      simp at k2
      simp at k3
      refine wpOp_wants9 rfl (by simp [Region.wanted,yielded, *]) ?_
      go_simp
      exact Left.mk0 (.agg #[.int .i64 o.state,.int .i64 o.client,.int .i64 o.oclient,.int .i64 o.oconn]) (by first | rfl | simp [updF, *]) HJ.out rfl
    · -- 27: Op.call { value (Operand.func 24), args := #[t107], argTypes
      intro σ W HJ hdep
      simp [Region.binds] at hdep
      have HJ:=hid HJ
      have eg:σ 12=.bool false:=by first | exact hdep | exact hdep.1 | exact hdep.2 | exact hdep.2.1 | exact hdep.2.2 | exact hdep.2.2.1 | exact hdep.2.2.2 | exact hdep.2.2.2.1 | exact hdep.2.2.2.2 | exact hdep.2.2.2.2.1 | exact hdep.2.2.2.2.2 | exact hdep.2.2.2.2.2.1 | exact hdep.2.2.2.2.2.2 | exact hdep.2.2.2.2.2.2.1 | exact hdep.2.2.2.2.2.2.2 | exact hdep.2.2.2.2.2.2.2.1
      have dl:σ 26=.agg #[.int .i64 o.state,.int .i64 o.client,.int .i64 o.oclient,.int .i64 o.oconn]:=by first | exact hdep | exact hdep.1 | exact hdep.2 | exact hdep.2.1 | exact hdep.2.2 | exact hdep.2.2.1 | exact hdep.2.2.2 | exact hdep.2.2.2.1 | exact hdep.2.2.2.2 | exact hdep.2.2.2.2.1 | exact hdep.2.2.2.2.2 | exact hdep.2.2.2.2.2.1 | exact hdep.2.2.2.2.2.2 | exact hdep.2.2.2.2.2.2.1 | exact hdep.2.2.2.2.2.2.2 | exact hdep.2.2.2.2.2.2.2.1
      clear hdep
      have HC:=hid (refConn_any o ho.out W)
      refine wpOp_wants9 rfl (by simp [Region.wanted,yielded, *]) ?_
      go_simp
      refine HC.out.mono ?_
      rintro e w2 ⟨v,rfl,hown,hb2⟩
      exact Left.mk v (by first | rfl | simp [updF, *]) hb2 HJ.out hown
    · -- 28: Op.fieldAddr 46 t11 1   [guarded: some (12, false)]
      intro σ W HJ hdep
      simp [Region.binds] at hdep
      have HJ:=hid HJ
      refine wpOp_wants9 rfl (by simp [Region.wanted,yielded, *]) ?_
      go_simp
      exact Left.mk0 (.pointer (some ⟨gh,1,none⟩)) (by first | rfl | simp [updF, *]) HJ.out rfl
    · -- 29: Op.load 42 t109   [guarded: some (12, false)]
      intro σ W HJ hdep
      simp [Region.binds] at hdep
      have HJ:=hid HJ
      have k1:=(hrh.out.below HJ.out hrh.out.lt).cell 1
      have k2:=(hrh.out.below HJ.out hrh.out.lt).cell 2
      have k3:=(hrh.out.below HJ.out hrh.out.lt).cell 3
      have k4:=(hrh.out.below HJ.out hrh.out.lt).cell 4
      have k5:=(hrh.out.below HJ.out hrh.out.lt).cell 5
      simp at k1
      simp at k2
      simp at k3
      simp at k4
      simp at k5
      refine wpOp_wants9 rfl (by simp [Region.wanted,yielded, *]) ?_
      go_simp
      exact Left.mk0 (.agg #[.int .i64 h.prf.index,.int .i64 h.prf.size,.slice q1 h.prf.key.length e1,.slice q2 h.prf.val.length e2,.slice q3 h.prf.path.length e3]) (by first | rfl | simp [updF, *]) HJ.out rfl
    · -- 30: Op.call { value (Operand.func 22), args := #[t99, t101, t103
      intro σ W HJ hdep
      simp [Region.binds] at hdep
      have HJ:=hid HJ
      have eg:σ 12=.bool false:=by first | exact hdep | exact hdep.1 | exact hdep.2 | exact hdep.2.1 | exact hdep.2.2 | exact hdep.2.2.1 | exact hdep.2.2.2 | exact hdep.2.2.2.1 | exact hdep.2.2.2.2 | exact hdep.2.2.2.2.1 | exact hdep.2.2.2.2.2 | exact hdep.2.2.2.2.2.1 | exact hdep.2.2.2.2.2.2 | exact hdep.2.2.2.2.2.2.1 | exact hdep.2.2.2.2.2.2.2 | exact hdep.2.2.2.2.2.2.2.1
      have hkk:Bytes W W.heap.size (σ 25) (keyL kwConn [q.toNat]):=by first | exact hdep | exact hdep.1 | exact hdep.2 | exact hdep.2.1 | exact hdep.2.2 | exact hdep.2.2.1 | exact hdep.2.2.2 | exact hdep.2.2.2.1 | exact hdep.2.2.2.2 | exact hdep.2.2.2.2.1 | exact hdep.2.2.2.2.2 | exact hdep.2.2.2.2.2.1 | exact hdep.2.2.2.2.2.2 | exact hdep.2.2.2.2.2.2.1 | exact hdep.2.2.2.2.2.2.2 | exact hdep.2.2.2.2.2.2.2.1
      have hvv:Bytes W W.heap.size (σ 27) (connB o):=by first | exact hdep | exact hdep.1 | exact hdep.2 | exact hdep.2.1 | exact hdep.2.2 | exact hdep.2.2.1 | exact hdep.2.2.2 | exact hdep.2.2.2.1 | exact hdep.2.2.2.2 | exact hdep.2.2.2.2.1 | exact hdep.2.2.2.2.2 | exact hdep.2.2.2.2.2.1 | exact hdep.2.2.2.2.2.2 | exact hdep.2.2.2.2.2.2.1 | exact hdep.2.2.2.2.2.2.2 | exact hdep.2.2.2.2.2.2.2.1
      have dc:σ 18=.agg #[.string x.chain,.int .i64 x.trust,.bool x.frozen,.slice ka x.known.length ma]:=by first | exact hdep | exact hdep.1 | exact hdep.2 | exact hdep.2.1 | exact hdep.2.2 | exact hdep.2.2.1 | exact hdep.2.2.2 | exact hdep.2.2.2.1 | exact hdep.2.2.2.2 | exact hdep.2.2.2.2.1 | exact hdep.2.2.2.2.2 | exact hdep.2.2.2.2.2.1 | exact hdep.2.2.2.2.2.2 | exact hdep.2.2.2.2.2.2.1 | exact hdep.2.2.2.2.2.2.2 | exact hdep.2.2.2.2.2.2.2.1
      have dt:σ 20=.int .i64 s.time:=by first | exact hdep | exact hdep.1 | exact hdep.2 | exact hdep.2.1 | exact hdep.2.2 | exact hdep.2.2.1 | exact hdep.2.2.2 | exact hdep.2.2.2.1 | exact hdep.2.2.2.2 | exact hdep.2.2.2.2.1 | exact hdep.2.2.2.2.2 | exact hdep.2.2.2.2.2.1 | exact hdep.2.2.2.2.2.2 | exact hdep.2.2.2.2.2.2.1 | exact hdep.2.2.2.2.2.2.2 | exact hdep.2.2.2.2.2.2.2.1
      have dh:σ 22=.int .i64 h.height:=by first | exact hdep | exact hdep.1 | exact hdep.2 | exact hdep.2.1 | exact hdep.2.2 | exact hdep.2.2.1 | exact hdep.2.2.2 | exact hdep.2.2.2.1 | exact hdep.2.2.2.2 | exact hdep.2.2.2.2.1 | exact hdep.2.2.2.2.2 | exact hdep.2.2.2.2.2.1 | exact hdep.2.2.2.2.2.2 | exact hdep.2.2.2.2.2.2.1 | exact hdep.2.2.2.2.2.2.2 | exact hdep.2.2.2.2.2.2.2.1
      have dp:σ 29=.agg #[.int .i64 h.prf.index,.int .i64 h.prf.size,.slice q1 h.prf.key.length e1,.slice q2 h.prf.val.length e2,.slice q3 h.prf.path.length e3]:=by first | exact hdep | exact hdep.1 | exact hdep.2 | exact hdep.2.1 | exact hdep.2.2 | exact hdep.2.2.1 | exact hdep.2.2.2 | exact hdep.2.2.2.1 | exact hdep.2.2.2.2 | exact hdep.2.2.2.2.1 | exact hdep.2.2.2.2.2 | exact hdep.2.2.2.2.2.1 | exact hdep.2.2.2.2.2.2 | exact hdep.2.2.2.2.2.2.1 | exact hdep.2.2.2.2.2.2.2 | exact hdep.2.2.2.2.2.2.2.1
      have HC:=hid (MemberC.z refMemberC x s.time h.height (keyL kwConn [q.toNat]) (connB o) h.prf (.agg #[.string x.chain,.int .i64 x.trust,.bool x.frozen,.slice ka x.known.length ma]) (σ 25) (σ 27) (.agg #[.int .i64 h.prf.index,.int .i64 h.prf.size,.slice q1 h.prf.key.length e1,.slice q2 h.prf.val.length e2,.slice q3 h.prf.path.length e3]) W.heap.size W (htab.out.past HJ.out) (Nat.le_refl _) ((hcv.out.below (HJ.out.mono hN)).mono (Nat.le_trans hN HJ.out.size)) hkk hvv ((hpv.out.below (HJ.out.mono hN)).mono (Nat.le_trans hN HJ.out.size)) hcf.out hkl hvl hpf.out hz.out)
      clear hdep hkk hvv
      refine wpOp_wants9 rfl (by simp [Region.wanted,yielded, *]) ?_
      go_simp
      refine (HC.out).mono ?_
      rintro e w2 ⟨rfl,hb2⟩
      exact Left.mk (.int .i64 0) (by first | rfl | simp [updF, *]) hb2 HJ.out rfl
    · -- 31: Op.binOp BinOp.neq 29 t111 (const (0:i64)) 29   [guarded: so
      intro σ W HJ hdep
      simp [Region.binds] at hdep
      have HJ:=hid HJ
      refine wpOp_wants9 rfl (by simp [Region.wanted,yielded, *]) ?_
      go_simp
      exact Left.mk0 (.bool false) (by first | rfl | simp [updF, *]) HJ.out rfl
    · -- 32: Op.pick t93 (const (Value.bool true)) t112
      intro σ W HJ hdep
      simp [Region.binds] at hdep
      have HJ:=hid HJ
      refine wpOp_plain rfl rfl ?_
      go_simp
      exact Left.mk0 (.bool false) (by first | rfl | simp [updF, *]) HJ.out rfl
  · intro σ w' hb hg
    exact hQ.out σ w' hb (by first | exact ⟨hg 32 (by decide)⟩ | exact hg 32 (by decide))
set_option maxRecDepth 100000 in
set_option maxHeartbeats 4000000 in
theorem shownR18 {y0 y2 y3 y4 y5 y7 y8 y9 y10 y12 y13 y14 y15 y16 y17 y18 y19 y20 y22 y25 y26 y27 y28 y29 y30 y31 y32 y33 y34 y35 y36 y37 y38 y39 y40 y41 y42 y43 y44 y45 y46 y47 y48 y49 y50 y51 y52 y53 y54 y55 y56 y57 y58 y59 y60 y61 y62 y63 y64 y65 y66 y67 y68 y69 y70 y71 y72 y73 y74 y75 y76 y77 y78 y79 y80 y81 y82 y83 y84 y85 y86 y87 y88 y89 y90 y91 y92 y93 y94 y95 y96 y97 y98 y99 y100 y101 y102 y103 y104 y105 y106 y107 y108 y109 y110 y111 y112 y113 y114 y115 y116 y117 y118 y119 y120 y121 y122 y123 y124 y125 y126 y127 y128 y129 y130 y131 y132 y133 z134 z135 z136 z137 z138 z139 z140 z141 z142 z143 z144 z145 z146 z147 z148 z149 z150 z151 z152 z153 z154 z155 z156 z157 z158 z159 z160 z161 z162 z163 z164 z165 z166 z167:Value} {gs go gh gt gc N:Nat} (s:St) (x:Cl) (k n b f c1 ma:Nat) (ka o2 o3 o4 o5 o6 o7:Option Addr) (c2 c3 c4 c5 c6 c7:Nat) (h:Sh) (q:Int) (o:Cn) (q1 q2 q3 r1 r2 r3 r4 r5 r6:Option Addr) (e1 e2 e3 s1 s2 s3 s4 s5 s6:Nat) (yo:Int) (j bt ft nt ct:Nat) (tn0 tn1 tn2 tn3 tn5 tn6 tn7 tn8 tn9:Value) {w:World} (hN:N≤w.heap.size) (hrs:Hid (Row w gs 28 [.string s.name,.int .i64 s.height,.int .i64 s.time,.slice (some ⟨b,f,none⟩) n c1,.slice o2 s.conns.length c2,.slice o3 s.chans.length c3,.slice o4 s.sent.length c4,.slice o5 s.got.length c5,.slice o6 s.acks.length c6,.slice o7 s.purses.length c7])) (_hlt:(k:Int)<(n:Int)) (hb1:b<w.heap.size) (hca:Hid (w.cell? ⟨b,f+k*4,none⟩=some (.string x.chain)∧w.cell? ⟨b,f+k*4+1,none⟩=some (.int .i64 x.trust)∧w.cell? ⟨b,f+k*4+2,none⟩=some (.bool x.frozen)∧w.cell? ⟨b,f+k*4+3,none⟩=some (.slice ka x.known.length ma))) (hcv:Hid (ClV w N (.agg #[.string x.chain,.int .i64 x.trust,.bool x.frozen,.slice ka x.known.length ma]) x)) (hrh:Hid (Row w gh 46 [.int .i64 h.height,.int .i64 h.prf.index,.int .i64 h.prf.size,.slice q1 h.prf.key.length e1,.slice q2 h.prf.val.length e2,.slice q3 h.prf.path.length e3,.bool h.gap.hasL,.bool h.gap.hasR,.int .i64 h.gap.left.index,.int .i64 h.gap.left.size,.slice r1 h.gap.left.key.length s1,.slice r2 h.gap.left.val.length s2,.slice r3 h.gap.left.path.length s3,.int .i64 h.gap.right.index,.int .i64 h.gap.right.size,.slice r4 h.gap.right.key.length s4,.slice r5 h.gap.right.val.length s5,.slice r6 h.gap.right.path.length s6])) (hpv:Hid (PrfV w N (.agg #[.int .i64 h.prf.index,.int .i64 h.prf.size,.slice q1 h.prf.key.length e1,.slice q2 h.prf.val.length e2,.slice q3 h.prf.path.length e3]) h.prf)) (htab:Hid (tableAt w)) (hcf:Hid x.fits) (hpf:Hid h.prf.fits) (hro:Hid (Row w go 58 [.int .i64 o.state,.int .i64 o.client,.int .i64 o.oclient,.int .i64 o.oconn])) (_hq:0≤q∧q≤1000000000000) (ho:Hid (wrongCn o=0)) (hz:Hid (ShownN x s.time h.height (fun r=>h.prf.key=keyL kwConn [q.toNat]∧h.prf.val=connB o∧shownB r h.prf) 0)) (hkl:(keyL kwConn [q.toNat]).length≤140737488351232) (hvl:(connB o).length≤140737488351232) (hrc:Hid (Row w gc 58 [.int .i64 2,.int .i64 (k:Int),.int .i64 yo,.int .i64 q])) (hrt:Hid (Row w gt 28 [tn0,tn1,tn2,tn3,.slice (some ⟨bt,ft,none⟩) nt ct,tn5,tn6,tn7,tn8,tn9])) (_hjt:(j:Int)<(nt:Int)) (hbt:bt<w.heap.size) (hct:Hid (w.cell? ⟨bt,ft+j*4,none⟩=some (.int .i64 3))) (Q:Exit→Act→World→Prop)
    (hQ:Hid (∀ (σ:Nat→Value) (w':World),Below w.heap.size w w'→/-33-/ σ 33=.bool false→Q .normal ⟨#[y0,.int .i64 (j:Int),y2,y3,y4,y5,.pointer (some ⟨gs,0,none⟩),y7,y8,y9,y10,.pointer (some ⟨gh,0,none⟩),y12,y13,y14,y15,y16,y17,y18,y19,y20,.pointer (some ⟨gt,0,none⟩),y22,.pointer (some ⟨gc,0,none⟩),.pointer (some ⟨go,0,none⟩),y25,y26,y27,y28,y29,y30,y31,y32,y33,y34,y35,y36,y37,y38,y39,y40,y41,y42,y43,y44,y45,y46,y47,y48,y49,y50,y51,y52,y53,y54,y55,y56,y57,y58,y59,y60,y61,y62,y63,y64,y65,y66,y67,y68,y69,y70,y71,y72,y73,y74,y75,y76,y77,y78,y79,y80,y81,y82,y83,y84,y85,y86,y87,y88,y89,y90,y91,y92,y93,y94,y95,y96,y97,y98,y99,y100,y101,y102,y103,y104,y105,y106,y107,y108,y109,y110,y111,y112,y113,y114,y115,y116,y117,y118,y119,y120,y121,y122,y123,y124,y125,y126,y127,y128,y129,y130,y131,y132,y133,σ 0,σ 1,σ 2,σ 3,σ 4,σ 5,σ 6,σ 7,σ 8,σ 9,σ 10,σ 11,σ 12,σ 13,σ 14,σ 15,σ 16,σ 17,σ 18,σ 19,σ 20,σ 21,σ 22,σ 23,σ 24,σ 25,σ 26,σ 27,σ 28,σ 29,σ 30,σ 31,σ 32,σ 33],[]⟩ w')) :
    Code.wp Tryz.prog (.region 18 ((Tryz.f5.body.bind (regOf 18)).getD #[]) true) Q ⟨#[y0,.int .i64 (j:Int),y2,y3,y4,y5,.pointer (some ⟨gs,0,none⟩),y7,y8,y9,y10,.pointer (some ⟨gh,0,none⟩),y12,y13,y14,y15,y16,y17,y18,y19,y20,.pointer (some ⟨gt,0,none⟩),y22,.pointer (some ⟨gc,0,none⟩),.pointer (some ⟨go,0,none⟩),y25,y26,y27,y28,y29,y30,y31,y32,y33,y34,y35,y36,y37,y38,y39,y40,y41,y42,y43,y44,y45,y46,y47,y48,y49,y50,y51,y52,y53,y54,y55,y56,y57,y58,y59,y60,y61,y62,y63,y64,y65,y66,y67,y68,y69,y70,y71,y72,y73,y74,y75,y76,y77,y78,y79,y80,y81,y82,y83,y84,y85,y86,y87,y88,y89,y90,y91,y92,y93,y94,y95,y96,y97,y98,y99,y100,y101,y102,y103,y104,y105,y106,y107,y108,y109,y110,y111,y112,y113,y114,y115,y116,y117,y118,y119,y120,y121,y122,y123,y124,y125,y126,y127,y128,y129,y130,y131,y132,y133,z134,z135,z136,z137,z138,z139,z140,z141,z142,z143,z144,z145,z146,z147,z148,z149,z150,z151,z152,z153,z154,z155,z156,z157,z158,z159,z160,z161,z162,z163,z164,z165,z166,z167],[]⟩ w:=by
  conv=>arg 2;arg 2;whnf
  conv=>arg 4;dsimp only
  refine region_grows (by kernel_rfl) (fun σ=>#[y0,.int .i64 (j:Int),y2,y3,y4,y5,.pointer (some ⟨gs,0,none⟩),y7,y8,y9,y10,.pointer (some ⟨gh,0,none⟩),y12,y13,y14,y15,y16,y17,y18,y19,y20,.pointer (some ⟨gt,0,none⟩),y22,.pointer (some ⟨gc,0,none⟩),.pointer (some ⟨go,0,none⟩),y25,y26,y27,y28,y29,y30,y31,y32,y33,y34,y35,y36,y37,y38,y39,y40,y41,y42,y43,y44,y45,y46,y47,y48,y49,y50,y51,y52,y53,y54,y55,y56,y57,y58,y59,y60,y61,y62,y63,y64,y65,y66,y67,y68,y69,y70,y71,y72,y73,y74,y75,y76,y77,y78,y79,y80,y81,y82,y83,y84,y85,y86,y87,y88,y89,y90,y91,y92,y93,y94,y95,y96,y97,y98,y99,y100,y101,y102,y103,y104,y105,y106,y107,y108,y109,y110,y111,y112,y113,y114,y115,y116,y117,y118,y119,y120,y121,y122,y123,y124,y125,y126,y127,y128,y129,y130,y131,y132,y133,σ 0,σ 1,σ 2,σ 3,σ 4,σ 5,σ 6,σ 7,σ 8,σ 9,σ 10,σ 11,σ 12,σ 13,σ 14,σ 15,σ 16,σ 17,σ 18,σ 19,σ 20,σ 21,σ 22,σ 23,σ 24,σ 25,σ 26,σ 27,σ 28,σ 29,σ 30,σ 31,σ 32,σ 33]) (fun i=>([z134,z135,z136,z137,z138,z139,z140,z141,z142,z143,z144,z145,z146,z147,z148,z149,z150,z151,z152,z153,z154,z155,z156,z157,z158,z159,z160,z161,z162,z163,z164,z165,z166,z167]:List Value).getD i undef) rfl (fun i X W=>match i with
    | 0=>X=.pointer (some ⟨gc,0,none⟩)
    | 1=>X=.int .i64 2
    | 2=>X=.bool false
    | 3=>X=.bool false
    | 4=>X=.pointer (some ⟨gt,4,none⟩)
    | 5=>X=.slice (some ⟨bt,ft,none⟩) nt ct
    | 6=>X=.int .i64 (j:Int)
    | 7=>X=.pointer (some ⟨bt,ft+j*4,none⟩)
    | 8=>X=.pointer (some ⟨bt,ft+j*4,none⟩)
    | 9=>X=.int .i64 3
    | 10=>X=.bool false
    | 11=>X=.bool false
    | 12=>X=.bool false
    | 13=>X=.pointer (some ⟨gs,3,none⟩)
    | 14=>X=.slice (some ⟨b,f,none⟩) n c1
    | 15=>X=.pointer (some ⟨gc,1,none⟩)
    | 16=>X=.int .i64 (k:Int)
    | 17=>X=.pointer (some ⟨b,f+k*4,none⟩)
    | 18=>X=.agg #[.string x.chain,.int .i64 x.trust,.bool x.frozen,.slice ka x.known.length ma]
    | 19=>X=.pointer (some ⟨gs,2,none⟩)
    | 20=>X=.int .i64 s.time
    | 21=>X=.pointer (some ⟨gh,0,none⟩)
    | 22=>X=.int .i64 h.height
    | 23=>X=.pointer (some ⟨gc,3,none⟩)
    | 24=>X=.int .i64 q
    | 25=>∃ r,X=.slice (some ⟨r,0,none⟩) 1 1∧Row W r 3 [.int .i64 q]
    | 26=>Bytes W W.heap.size X (keyL kwConn [q.toNat])
    | 27=>X=.agg #[.int .i64 o.state,.int .i64 o.client,.int .i64 o.oclient,.int .i64 o.oconn]
    | 28=>Bytes W W.heap.size X (connB o)
    | 29=>X=.pointer (some ⟨gh,1,none⟩)
    | 30=>X=.agg #[.int .i64 h.prf.index,.int .i64 h.prf.size,.slice q1 h.prf.key.length e1,.slice q2 h.prf.val.length e2,.slice q3 h.prf.path.length e3]
    | 31=>X=.int .i64 0
    | 32=>X=.bool false
    | 33=>X=.bool false
    | _=>True) ?_ (by kernel_rfl) ?_ ?_
  · intro i X W W' HB H
    match i,H with
    | 0,H=>exact H
    | 1,H=>exact H
    | 2,H=>exact H
    | 3,H=>exact H
    | 4,H=>exact H
    | 5,H=>exact H
    | 6,H=>exact H
    | 7,H=>exact H
    | 8,H=>exact H
    | 9,H=>exact H
    | 10,H=>exact H
    | 11,H=>exact H
    | 12,H=>exact H
    | 13,H=>exact H
    | 14,H=>exact H
    | 15,H=>exact H
    | 16,H=>exact H
    | 17,H=>exact H
    | 18,H=>exact H
    | 19,H=>exact H
    | 20,H=>exact H
    | 21,H=>exact H
    | 22,H=>exact H
    | 23,H=>exact H
    | 24,H=>exact H
    | 25,H=>exact (by obtain ⟨r,e,hr⟩:=H;exact ⟨r,e,hr.below HB hr.lt⟩)
    | 26,H=>exact ((H.below HB).mono HB.size)
    | 27,H=>exact H
    | 28,H=>exact ((H.below HB).mono HB.size)
    | 29,H=>exact H
    | 30,H=>exact H
    | 31,H=>exact H
    | 32,H=>exact H
    | 33,H=>exact H
    | _+34,_=>exact trivial
  · refine ⟨?_,?_,?_,?_,?_,?_,?_,?_,?_,?_,?_,?_,?_,?_,?_,?_,?_,?_,?_,?_,?_,?_,?_,?_,?_,?_,?_,?_,?_,?_,?_,?_,?_,?_,trivial⟩
    · -- 0: Op.fieldAddr 58 t23 0
      intro σ W HJ hdep
      simp [Region.binds] at hdep
      have HJ:=hid HJ
      refine wpOp_plain rfl rfl ?_
      go_simp
      exact Left.mk0 (.pointer (some ⟨gc,0,none⟩)) (by first | rfl | simp [updF, *]) HJ.out rfl
    · -- 1: Op.load 3 t134
      intro σ W HJ hdep
      simp [Region.binds] at hdep
      have HJ:=hid HJ
      have kc:=(hrc.out.below HJ.out hrc.out.lt).cell 0
      simp at kc
      refine wpOp_plain rfl rfl ?_
      go_simp
      exact Left.mk0 (.int .i64 2) (by first | rfl | simp [updF, *]) HJ.out rfl
    · -- 2: Op.binOp BinOp.neq 3 t135 (const (2:i64)) 3
      intro σ W HJ hdep
      simp [Region.binds] at hdep
      have HJ:=hid HJ
      refine wpOp_plain rfl rfl ?_
      go_simp
      exact Left.mk0 (.bool false) (by first | rfl | simp [updF, *]) HJ.out rfl
    · -- 3: Op.move t136
      intro σ W HJ hdep
      simp [Region.binds] at hdep
      have HJ:=hid HJ
      refine wpOp_plain rfl rfl ?_
      go_simp
      exact Left.mk0 (.bool false) (by first | rfl | simp [updF, *]) HJ.out rfl
    · -- 4: Op.fieldAddr 28 t21 4   [guarded: some (3, false)]
      intro σ W HJ hdep
      simp [Region.binds] at hdep
      have HJ:=hid HJ
      refine wpOp_wants9 rfl (by simp [Region.wanted,yielded, *]) ?_
      go_simp
      exact Left.mk0 (.pointer (some ⟨gt,4,none⟩)) (by first | rfl | simp [updF, *]) HJ.out rfl
    · -- 5: Op.load 23 t138   [guarded: some (3, false)]
      intro σ W HJ hdep
      simp [Region.binds] at hdep
      have HJ:=hid HJ
      have kc:=(hrt.out.below HJ.out hrt.out.lt).cell 4
      simp at kc
      refine wpOp_wants9 rfl (by simp [Region.wanted,yielded, *]) ?_
      go_simp
      exact Left.mk0 (.slice (some ⟨bt,ft,none⟩) nt ct) (by first | rfl | simp [updF, *]) HJ.out rfl
    · -- 6: Op.move t1   [guarded: some (3, false)]
      intro σ W HJ hdep
      simp [Region.binds] at hdep
      have HJ:=hid HJ
      refine wpOp_wants9 rfl (by simp [Region.wanted,yielded, *]) ?_
      go_simp
      exact Left.mk0 (.int .i64 (j:Int)) (by first | rfl | simp [updF, *]) HJ.out rfl
    · -- 7: Op.indexAddr 23 t139 t140   [guarded: some (3, false)]
      intro σ W HJ hdep
      simp [Region.binds] at hdep
      have HJ:=hid HJ
      refine wpOp_wants9 rfl (by simp [Region.wanted,yielded, *]) ?_
      go_simp
      exact Left.mk0 (.pointer (some ⟨bt,ft+j*4,none⟩)) (by first | rfl | simp [updF, *]) HJ.out rfl
    · -- 8: Op.fieldAddr 58 t141 0   [guarded: some (3, false)]
      intro σ W HJ hdep
      simp [Region.binds] at hdep
      have HJ:=hid HJ
      refine wpOp_wants9 rfl (by simp [Region.wanted,yielded, *]) ?_
      go_simp
      exact Left.mk0 (.pointer (some ⟨bt,ft+j*4,none⟩)) (by first | rfl | simp [updF, *]) HJ.out rfl
    · -- 9: Op.load 3 t142   [guarded: some (3, false)]
      intro σ W HJ hdep
      simp [Region.binds] at hdep
      have HJ:=hid HJ
      have x0:=(HJ.out.cell (p:=⟨bt,ft+j*4,none⟩) hbt).trans hct.out
      refine wpOp_wants9 rfl (by simp [Region.wanted,yielded, *]) ?_
      go_simp
      exact Left.mk0 (.int .i64 3) (by first | rfl | simp [updF, *]) HJ.out rfl
    · -- 10: Op.binOp BinOp.neq 3 t143 (const (3:i64)) 3   [guarded: some
      intro σ W HJ hdep
      simp [Region.binds] at hdep
      have HJ:=hid HJ
      refine wpOp_wants9 rfl (by simp [Region.wanted,yielded, *]) ?_
      go_simp
      exact Left.mk0 (.bool false) (by first | rfl | simp [updF, *]) HJ.out rfl
    · -- 11: Op.pick t137 (const (Value.bool true)) t144
      intro σ W HJ hdep
      simp [Region.binds] at hdep
      have HJ:=hid HJ
      refine wpOp_plain rfl rfl ?_
      go_simp
      exact Left.mk0 (.bool false) (by first | rfl | simp [updF, *]) HJ.out rfl
    · -- 12: Op.move t145
      intro σ W HJ hdep
      simp [Region.binds] at hdep
      have HJ:=hid HJ
      refine wpOp_plain rfl rfl ?_
      go_simp
      exact Left.mk0 (.bool false) (by first | rfl | simp [updF, *]) HJ.out rfl
    · -- 13: Op.fieldAddr 28 t6 3   [guarded: some (12, false)]
      intro σ W HJ hdep
      simp [Region.binds] at hdep
      have HJ:=hid HJ
      refine wpOp_wants9 rfl (by simp [Region.wanted,yielded, *]) ?_
      go_simp
      exact Left.mk0 (.pointer (some ⟨gs,3,none⟩)) (by first | rfl | simp [updF, *]) HJ.out rfl
    · -- 14: Op.load 22 t147   [guarded: some (12, false)]
      intro σ W HJ hdep
      simp [Region.binds] at hdep
      have HJ:=hid HJ
      have kc:=(hrs.out.below HJ.out hrs.out.lt).cell 3
      simp at kc
      refine wpOp_wants9 rfl (by simp [Region.wanted,yielded, *]) ?_
      go_simp
      exact Left.mk0 (.slice (some ⟨b,f,none⟩) n c1) (by first | rfl | simp [updF, *]) HJ.out rfl
    · -- 15: Op.fieldAddr 58 t23 1   [guarded: some (12, false)]
      intro σ W HJ hdep
      simp [Region.binds] at hdep
      have HJ:=hid HJ
      refine wpOp_wants9 rfl (by simp [Region.wanted,yielded, *]) ?_
      go_simp
      exact Left.mk0 (.pointer (some ⟨gc,1,none⟩)) (by first | rfl | simp [updF, *]) HJ.out rfl
    · -- 16: Op.load 3 t149   [guarded: some (12, false)]
      intro σ W HJ hdep
      simp [Region.binds] at hdep
      have HJ:=hid HJ
      have kc:=(hrc.out.below HJ.out hrc.out.lt).cell 1
      simp at kc
      refine wpOp_wants9 rfl (by simp [Region.wanted,yielded, *]) ?_
      go_simp
      exact Left.mk0 (.int .i64 (k:Int)) (by first | rfl | simp [updF, *]) HJ.out rfl
    · -- 17: Op.indexAddr 22 t148 t150   [guarded: some (12, false)]
      intro σ W HJ hdep
      simp [Region.binds] at hdep
      have HJ:=hid HJ
      refine wpOp_wants9 rfl (by simp [Region.wanted,yielded, *]) ?_
      go_simp
      exact Left.mk0 (.pointer (some ⟨b,f+k*4,none⟩)) (by first | rfl | simp [updF, *]) HJ.out rfl
    · -- 18: Op.load 62 t151   [guarded: some (12, false)]
      intro σ W HJ hdep
      simp [Region.binds] at hdep
      have HJ:=hid HJ
      have x0:=(HJ.out.cell (p:=⟨b,f+k*4,none⟩) hb1).trans hca.out.1
      have x1:=(HJ.out.cell (p:=⟨b,f+k*4+1,none⟩) hb1).trans hca.out.2.1
      have x2:=(HJ.out.cell (p:=⟨b,f+k*4+2,none⟩) hb1).trans hca.out.2.2.1
      have x3:=(HJ.out.cell (p:=⟨b,f+k*4+3,none⟩) hb1).trans hca.out.2.2.2
      refine wpOp_wants9 rfl (by simp [Region.wanted,yielded, *]) ?_
      go_simp
      exact Left.mk0 (.agg #[.string x.chain,.int .i64 x.trust,.bool x.frozen,.slice ka x.known.length ma]) (by first | rfl | simp [updF, *]) HJ.out rfl
    · -- 19: Op.fieldAddr 28 t6 2   [guarded: some (12, false)]
      intro σ W HJ hdep
      simp [Region.binds] at hdep
      have HJ:=hid HJ
      refine wpOp_wants9 rfl (by simp [Region.wanted,yielded, *]) ?_
      go_simp
      exact Left.mk0 (.pointer (some ⟨gs,2,none⟩)) (by first | rfl | simp [updF, *]) HJ.out rfl
    · -- 20: Op.load 3 t153   [guarded: some (12, false)]
      intro σ W HJ hdep
      simp [Region.binds] at hdep
      have HJ:=hid HJ
      have kc:=(hrs.out.below HJ.out hrs.out.lt).cell 2
      simp at kc
      refine wpOp_wants9 rfl (by simp [Region.wanted,yielded, *]) ?_
      go_simp
      exact Left.mk0 (.int .i64 s.time) (by first | rfl | simp [updF, *]) HJ.out rfl
    · -- 21: Op.fieldAddr 46 t11 0   [guarded: some (12, false)]
      intro σ W HJ hdep
      simp [Region.binds] at hdep
      have HJ:=hid HJ
      refine wpOp_wants9 rfl (by simp [Region.wanted,yielded, *]) ?_
      go_simp
      exact Left.mk0 (.pointer (some ⟨gh,0,none⟩)) (by first | rfl | simp [updF, *]) HJ.out rfl
    · -- 22: Op.load 3 t155   [guarded: some (12, false)]
      intro σ W HJ hdep
      simp [Region.binds] at hdep
      have HJ:=hid HJ
      have kc:=(hrh.out.below HJ.out hrh.out.lt).cell 0
      simp at kc
      refine wpOp_wants9 rfl (by simp [Region.wanted,yielded, *]) ?_
      go_simp
      exact Left.mk0 (.int .i64 h.height) (by first | rfl | simp [updF, *]) HJ.out rfl
    · -- 23: Op.fieldAddr 58 t23 3   [guarded: some (12, false)]
      intro σ W HJ hdep
      simp [Region.binds] at hdep
      have HJ:=hid HJ
      refine wpOp_wants9 rfl (by simp [Region.wanted,yielded, *]) ?_
      go_simp
      exact Left.mk0 (.pointer (some ⟨gc,3,none⟩)) (by first | rfl | simp [updF, *]) HJ.out rfl
    · -- 24: Op.load 3 t157   [guarded: some (12, false)]
      intro σ W HJ hdep
      simp [Region.binds] at hdep
      have HJ:=hid HJ
      have kc:=(hrc.out.below HJ.out hrc.out.lt).cell 3
      simp at kc
      refine wpOp_wants9 rfl (by simp [Region.wanted,yielded, *]) ?_
      go_simp
      exact Left.mk0 (.int .i64 q) (by first | rfl | simp [updF, *]) HJ.out rfl
    · -- 25: Op.buildSlice 130 1 #[(0, t158)]   [guarded: some (12, false
      intro σ W HJ hdep
      simp [Region.binds] at hdep
      have HJ:=hid HJ
      have eg:σ 12=.bool false:=by first | exact hdep | exact hdep.1 | exact hdep.2 | exact hdep.2.1 | exact hdep.2.2 | exact hdep.2.2.1 | exact hdep.2.2.2 | exact hdep.2.2.2.1 | exact hdep.2.2.2.2 | exact hdep.2.2.2.2.1 | exact hdep.2.2.2.2.2 | exact hdep.2.2.2.2.2.1 | exact hdep.2.2.2.2.2.2 | exact hdep.2.2.2.2.2.2.1 | exact hdep.2.2.2.2.2.2.2 | exact hdep.2.2.2.2.2.2.2.1
      refine wpOp_wants9 rfl (by simp [Region.wanted,yielded, *]) ?_
      go_simp
      exact Left.mk (.slice (some ⟨W.heap.size,0,none⟩) 1 1) (by first | rfl | simp [updF, *]) ((Below.refl _ _).alloc (Nat.le_refl _) _) HJ.out ⟨W.heap.size,rfl,Row.new _ _ _⟩
    · -- 26: Op.call { value (Operand.func 23), args := #[const (Value.st
      intro σ W HJ hdep
      simp [Region.binds] at hdep
      have HJ:=hid HJ
      have eg:σ 12=.bool false:=by first | exact hdep | exact hdep.1 | exact hdep.2 | exact hdep.2.1 | exact hdep.2.2 | exact hdep.2.2.1 | exact hdep.2.2.2 | exact hdep.2.2.2.1 | exact hdep.2.2.2.2 | exact hdep.2.2.2.2.1 | exact hdep.2.2.2.2.2 | exact hdep.2.2.2.2.2.1 | exact hdep.2.2.2.2.2.2 | exact hdep.2.2.2.2.2.2.1 | exact hdep.2.2.2.2.2.2.2 | exact hdep.2.2.2.2.2.2.2.1
      obtain ⟨r,er,hrow⟩:∃ r,σ 25=.slice (some ⟨r,0,none⟩) 1 1∧Row W r 3 [.int .i64 q]:=by first | exact hdep | exact hdep.1 | exact hdep.2 | exact hdep.2.1 | exact hdep.2.2 | exact hdep.2.2.1 | exact hdep.2.2.2 | exact hdep.2.2.2.1 | exact hdep.2.2.2.2 | exact hdep.2.2.2.2.1 | exact hdep.2.2.2.2.2 | exact hdep.2.2.2.2.2.1 | exact hdep.2.2.2.2.2.2 | exact hdep.2.2.2.2.2.2.1 | exact hdep.2.2.2.2.2.2.2 | exact hdep.2.2.2.2.2.2.2.1
      have HC:=hid (refKey_any8 ⟨#[99,111,110,110]⟩ [q] r 1 W (by decide) hrow rfl (by decide) (fun n hn=>by simp at hn;omega))
      clear hdep hrow
      refine wpOp_wants9 rfl (by simp [Region.wanted,yielded, *]) ?_
      go_simp
      refine HC.out.mono ?_
      rintro e w2 ⟨v,rfl,hown,hb2⟩
      exact Left.mk v (by first | rfl | simp [updF, *]) hb2 HJ.out hown
    · -- 27: Op.load 58 t24   [guarded: some (12, false)]
      intro σ W HJ hdep
      simp [Region.binds] at hdep
      have HJ:=hid HJ
      have k0:=(hro.out.below HJ.out hro.out.lt).cell 0
      have k1:=(hro.out.below HJ.out hro.out.lt).cell 1
      have k2:=(hro.out.below HJ.out hro.out.lt).cell 2
      have k3:=(hro.out.below HJ.out hro.out.lt).cell 3
      simp at k0
      simp at k1
      simp at k2
      simp at k3
      refine wpOp_wants9 rfl (by simp [Region.wanted,yielded, *]) ?_
      go_simp
      exact Left.mk0 (.agg #[.int .i64 o.state,.int .i64 o.client,.int .i64 o.oclient,.int .i64 o.oconn]) (by first | rfl | simp [updF, *]) HJ.out rfl
    · -- 28: Op.call { value (Operand.func 24), args := #[t161], argTypes
      intro σ W HJ hdep
      simp [Region.binds] at hdep
      have HJ:=hid HJ
      have eg:σ 12=.bool false:=by first | exact hdep | exact hdep.1 | exact hdep.2 | exact hdep.2.1 | exact hdep.2.2 | exact hdep.2.2.1 | exact hdep.2.2.2 | exact hdep.2.2.2.1 | exact hdep.2.2.2.2 | exact hdep.2.2.2.2.1 | exact hdep.2.2.2.2.2 | exact hdep.2.2.2.2.2.1 | exact hdep.2.2.2.2.2.2 | exact hdep.2.2.2.2.2.2.1 | exact hdep.2.2.2.2.2.2.2 | exact hdep.2.2.2.2.2.2.2.1
      have dl:σ 27=.agg #[.int .i64 o.state,.int .i64 o.client,.int .i64 o.oclient,.int .i64 o.oconn]:=by first | exact hdep | exact hdep.1 | exact hdep.2 | exact hdep.2.1 | exact hdep.2.2 | exact hdep.2.2.1 | exact hdep.2.2.2 | exact hdep.2.2.2.1 | exact hdep.2.2.2.2 | exact hdep.2.2.2.2.1 | exact hdep.2.2.2.2.2 | exact hdep.2.2.2.2.2.1 | exact hdep.2.2.2.2.2.2 | exact hdep.2.2.2.2.2.2.1 | exact hdep.2.2.2.2.2.2.2 | exact hdep.2.2.2.2.2.2.2.1
      clear hdep
      have HC:=hid (refConn_any o ho.out W)
      refine wpOp_wants9 rfl (by simp [Region.wanted,yielded, *]) ?_
      go_simp
      refine HC.out.mono ?_
      rintro e w2 ⟨v,rfl,hown,hb2⟩
      exact Left.mk v (by first | rfl | simp [updF, *]) hb2 HJ.out hown
    · -- 29: Op.fieldAddr 46 t11 1   [guarded: some (12, false)]
      intro σ W HJ hdep
      simp [Region.binds] at hdep
      have HJ:=hid HJ
      refine wpOp_wants9 rfl (by simp [Region.wanted,yielded, *]) ?_
      go_simp
      exact Left.mk0 (.pointer (some ⟨gh,1,none⟩)) (by first | rfl | simp [updF, *]) HJ.out rfl
    · -- 30: Op.load 42 t163   [guarded: some (12, false)]
      intro σ W HJ hdep
      simp [Region.binds] at hdep
      have HJ:=hid HJ
      have k1:=(hrh.out.below HJ.out hrh.out.lt).cell 1
      have k2:=(hrh.out.below HJ.out hrh.out.lt).cell 2
      have k3:=(hrh.out.below HJ.out hrh.out.lt).cell 3
      have k4:=(hrh.out.below HJ.out hrh.out.lt).cell 4
      have k5:=(hrh.out.below HJ.out hrh.out.lt).cell 5
      simp at k1
      simp at k2
      simp at k3
      simp at k4
      simp at k5
      refine wpOp_wants9 rfl (by simp [Region.wanted,yielded, *]) ?_
      go_simp
      exact Left.mk0 (.agg #[.int .i64 h.prf.index,.int .i64 h.prf.size,.slice q1 h.prf.key.length e1,.slice q2 h.prf.val.length e2,.slice q3 h.prf.path.length e3]) (by first | rfl | simp [updF, *]) HJ.out rfl
    · -- 31: Op.call { value (Operand.func 22), args := #[t152, t154, t15
      intro σ W HJ hdep
      simp [Region.binds] at hdep
      have HJ:=hid HJ
      have eg:σ 12=.bool false:=by first | exact hdep | exact hdep.1 | exact hdep.2 | exact hdep.2.1 | exact hdep.2.2 | exact hdep.2.2.1 | exact hdep.2.2.2 | exact hdep.2.2.2.1 | exact hdep.2.2.2.2 | exact hdep.2.2.2.2.1 | exact hdep.2.2.2.2.2 | exact hdep.2.2.2.2.2.1 | exact hdep.2.2.2.2.2.2 | exact hdep.2.2.2.2.2.2.1 | exact hdep.2.2.2.2.2.2.2 | exact hdep.2.2.2.2.2.2.2.1
      have hkk:Bytes W W.heap.size (σ 26) (keyL kwConn [q.toNat]):=by first | exact hdep | exact hdep.1 | exact hdep.2 | exact hdep.2.1 | exact hdep.2.2 | exact hdep.2.2.1 | exact hdep.2.2.2 | exact hdep.2.2.2.1 | exact hdep.2.2.2.2 | exact hdep.2.2.2.2.1 | exact hdep.2.2.2.2.2 | exact hdep.2.2.2.2.2.1 | exact hdep.2.2.2.2.2.2 | exact hdep.2.2.2.2.2.2.1 | exact hdep.2.2.2.2.2.2.2 | exact hdep.2.2.2.2.2.2.2.1
      have hvv:Bytes W W.heap.size (σ 28) (connB o):=by first | exact hdep | exact hdep.1 | exact hdep.2 | exact hdep.2.1 | exact hdep.2.2 | exact hdep.2.2.1 | exact hdep.2.2.2 | exact hdep.2.2.2.1 | exact hdep.2.2.2.2 | exact hdep.2.2.2.2.1 | exact hdep.2.2.2.2.2 | exact hdep.2.2.2.2.2.1 | exact hdep.2.2.2.2.2.2 | exact hdep.2.2.2.2.2.2.1 | exact hdep.2.2.2.2.2.2.2 | exact hdep.2.2.2.2.2.2.2.1
      have dc:σ 18=.agg #[.string x.chain,.int .i64 x.trust,.bool x.frozen,.slice ka x.known.length ma]:=by first | exact hdep | exact hdep.1 | exact hdep.2 | exact hdep.2.1 | exact hdep.2.2 | exact hdep.2.2.1 | exact hdep.2.2.2 | exact hdep.2.2.2.1 | exact hdep.2.2.2.2 | exact hdep.2.2.2.2.1 | exact hdep.2.2.2.2.2 | exact hdep.2.2.2.2.2.1 | exact hdep.2.2.2.2.2.2 | exact hdep.2.2.2.2.2.2.1 | exact hdep.2.2.2.2.2.2.2 | exact hdep.2.2.2.2.2.2.2.1
      have dt:σ 20=.int .i64 s.time:=by first | exact hdep | exact hdep.1 | exact hdep.2 | exact hdep.2.1 | exact hdep.2.2 | exact hdep.2.2.1 | exact hdep.2.2.2 | exact hdep.2.2.2.1 | exact hdep.2.2.2.2 | exact hdep.2.2.2.2.1 | exact hdep.2.2.2.2.2 | exact hdep.2.2.2.2.2.1 | exact hdep.2.2.2.2.2.2 | exact hdep.2.2.2.2.2.2.1 | exact hdep.2.2.2.2.2.2.2 | exact hdep.2.2.2.2.2.2.2.1
      have dh:σ 22=.int .i64 h.height:=by first | exact hdep | exact hdep.1 | exact hdep.2 | exact hdep.2.1 | exact hdep.2.2 | exact hdep.2.2.1 | exact hdep.2.2.2 | exact hdep.2.2.2.1 | exact hdep.2.2.2.2 | exact hdep.2.2.2.2.1 | exact hdep.2.2.2.2.2 | exact hdep.2.2.2.2.2.1 | exact hdep.2.2.2.2.2.2 | exact hdep.2.2.2.2.2.2.1 | exact hdep.2.2.2.2.2.2.2 | exact hdep.2.2.2.2.2.2.2.1
      have dp:σ 30=.agg #[.int .i64 h.prf.index,.int .i64 h.prf.size,.slice q1 h.prf.key.length e1,.slice q2 h.prf.val.length e2,.slice q3 h.prf.path.length e3]:=by first | exact hdep | exact hdep.1 | exact hdep.2 | exact hdep.2.1 | exact hdep.2.2 | exact hdep.2.2.1 | exact hdep.2.2.2 | exact hdep.2.2.2.1 | exact hdep.2.2.2.2 | exact hdep.2.2.2.2.1 | exact hdep.2.2.2.2.2 | exact hdep.2.2.2.2.2.1 | exact hdep.2.2.2.2.2.2 | exact hdep.2.2.2.2.2.2.1 | exact hdep.2.2.2.2.2.2.2 | exact hdep.2.2.2.2.2.2.2.1
      have HC:=hid (MemberC.z refMemberC x s.time h.height (keyL kwConn [q.toNat]) (connB o) h.prf (.agg #[.string x.chain,.int .i64 x.trust,.bool x.frozen,.slice ka x.known.length ma]) (σ 26) (σ 28) (.agg #[.int .i64 h.prf.index,.int .i64 h.prf.size,.slice q1 h.prf.key.length e1,.slice q2 h.prf.val.length e2,.slice q3 h.prf.path.length e3]) W.heap.size W (htab.out.past HJ.out) (Nat.le_refl _) ((hcv.out.below (HJ.out.mono hN)).mono (Nat.le_trans hN HJ.out.size)) hkk hvv ((hpv.out.below (HJ.out.mono hN)).mono (Nat.le_trans hN HJ.out.size)) hcf.out hkl hvl hpf.out hz.out)
      clear hdep hkk hvv
      refine wpOp_wants9 rfl (by simp [Region.wanted,yielded, *]) ?_
      go_simp
      refine (HC.out).mono ?_
      rintro e w2 ⟨rfl,hb2⟩
      exact Left.mk (.int .i64 0) (by first | rfl | simp [updF, *]) hb2 HJ.out rfl
    · -- 32: Op.binOp BinOp.neq 29 t165 (const (0:i64)) 29   [guarded: so
      intro σ W HJ hdep
      simp [Region.binds] at hdep
      have HJ:=hid HJ
      refine wpOp_wants9 rfl (by simp [Region.wanted,yielded, *]) ?_
      go_simp
      exact Left.mk0 (.bool false) (by first | rfl | simp [updF, *]) HJ.out rfl
    · -- 33: Op.pick t146 (const (Value.bool true)) t166
      intro σ W HJ hdep
      simp [Region.binds] at hdep
      have HJ:=hid HJ
      refine wpOp_plain rfl rfl ?_
      go_simp
      exact Left.mk0 (.bool false) (by first | rfl | simp [updF, *]) HJ.out rfl
  · intro σ w' hb hg
    exact hQ.out σ w' hb (by first | exact ⟨hg 33 (by decide)⟩ | exact hg 33 (by decide))
end Go.Proofs.YtooemgkjkngpcaaGreatDoor
