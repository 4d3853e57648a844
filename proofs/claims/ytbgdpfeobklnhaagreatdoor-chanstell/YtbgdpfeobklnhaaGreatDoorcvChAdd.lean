/-
  A channel more, or another one, in a copy.
-/
import Derived.Test.YtbgdpfeobklnhaaGreatDoorcvStOwn
import Derived.Test.YtbgdpfeobklnhaaGreatDoorcvChMath
import Derived.Test.YtbgdpfeobklnhaaGreatDoorcvCoAdd
import Derived.Test.YtbgdpfeobklnhaaGreatDoorcvCoOpened
import Derived.Test.YtbgdpfeobklnhaaGreatDoorcvFrKit
namespace Go.Proofs.YtbgdpfeobklnhaaGreatDoor
set_option maxRecDepth 1000000
set_option maxHeartbeats 8000000
open Go.RowKit
theorem Q7.putChans {N base:Nat} {w w':World} {s:St} {v1 v2 v3 v4 v5 v6 v7:Value} (h:Q7 N base w s v1 v2 v3 v4 v5 v6 v7) {v3':Value} {l:List Ch} (hg:w.grownBy w' v3.ownBlock) (hl:QV 54 Qh 7 w' base v3' l) (hn:∀ b,v3'.ownBlock=some b→v3.ownBlock=some b∨w.heap.size≤b) :
  Q7 N base w' { s with chans:=l } v1 v2 v3' v4 v5 v6 v7:=by
 obtain ⟨F,h0,h1,h2,h3,h4,h5,h6,h7,k2,k3,k7⟩:=h
 have hlt:∀ i b,(i=1∨i=4∨i=5∨i=6)→F i b→b<w.heap.size:=fun i b hi hF=>by
  rcases hi with rfl | rfl | rfl | rfl
  ·exact h1.1 b hF
  ·exact h4.1 b hF
  ·exact h5.1 b hF
  ·exact h6.1 b hF
 refine ⟨fun i b=>(i=3∧v3'.ownBlock=some b)∨(i=2∧v2.ownBlock=some b)∨(i=7∧v7.ownBlock=some b)∨((i=1∨i=4∨i=5∨i=6)∧F i b),fun i b hF=>?_,?_⟩
 ·rcases hF with ⟨rfl,e⟩ | ⟨rfl,e⟩ | ⟨rfl,e⟩ | ⟨_,hF⟩
  ·exact .inr (hl.own b e).1
  ·exact h0 2 b (k2 b e).1
  ·exact h0 7 b (k7 b e).1
  ·exact h0 i b hF
 ·have H:∀ (i:Nat) (P:World→Prop),(i=1∨i=4∨i=5∨i=6)→QL (F i) w P→QL (fun b=>(i=3∧v3'.ownBlock=some b)∨(i=2∧v2.ownBlock=some b)∨(i=7∧v7.ownBlock=some b)∨((i=1∨i=4∨i=5∨i=6)∧F i b)) w' P:=fun i P hi hP=>by
   have hP':=hP.grown hg (fun b e=>(k3 b e).2 i (by omega))
   exact hP'.wide (fun b hF=>.inr (.inr (.inr ⟨hi,hF⟩))) (fun b hF=>by
    rcases hF with ⟨rfl,_⟩ | ⟨rfl,_⟩ | ⟨rfl,_⟩ | ⟨_,hF⟩
    ·omega
    ·omega
    ·omega
    ·exact hP'.1 b hF)
  have n2:∀ b,v2.ownBlock=some b→some b≠v3.ownBlock:=fun b e e2=>(k2 b e).2 3 (by omega) (k3 b e2.symm).1
  have n7:∀ b,v7.ownBlock=some b→some b≠v3.ownBlock:=fun b e e2=>(k7 b e).2 3 (by omega) (k3 b e2.symm).1
  have n27:∀ b,v2.ownBlock=some b→v7.ownBlock≠some b:=fun b e e2=>(k2 b e).2 7 (by omega) (k7 b e2).1
  refine ⟨H 1 _ (.inl rfl) h1,h2.keep fun b e=>hg.block b (h2.own b e).2 (n2 b e),hl,H 4 _ (.inr (.inl rfl)) h4,H 5 _ (.inr (.inr (.inl rfl))) h5,H 6 _ (.inr (.inr (.inr rfl))) h6,h7.keep fun b e=>hg.block b (h7.own b e).2 (n7 b e),fun b e=>⟨.inr (.inl ⟨rfl,e⟩),fun i hi hF=>?_⟩,fun b e=>⟨.inl ⟨rfl,e⟩,fun i hi hF=>?_⟩,fun b e=>⟨.inr (.inr (.inl ⟨rfl,e⟩)),fun i hi hF=>?_⟩⟩
  ·rcases hF with ⟨rfl,e'⟩ | ⟨rfl,e'⟩ | ⟨rfl,e'⟩ | ⟨hi',hF⟩
   ·rcases hn b e' with e2 | hge
    ·exact n2 b e e2.symm
    ·have:=(h2.own b e).2;omega
   ·exact hi rfl
   ·exact n27 b e e'
   ·exact (k2 b e).2 i (by omega) hF
  ·rcases hF with ⟨rfl,_⟩ | ⟨rfl,e'⟩ | ⟨rfl,e'⟩ | ⟨hi',hF⟩
   ·exact hi rfl
   ·rcases hn b e with e2 | hge
    ·exact n2 b e' e2.symm
    ·have:=(h2.own b e').2;omega
   ·rcases hn b e with e2 | hge
    ·exact n7 b e' e2.symm
    ·have:=(h7.own b e').2;omega
   ·rcases hn b e with e2 | hge
    ·exact (k3 b e2).2 i (by omega) hF
    ·have:=hlt i b hi' hF;omega
  ·rcases hF with ⟨rfl,e'⟩ | ⟨rfl,e'⟩ | ⟨rfl,e'⟩ | ⟨hi',hF⟩
   ·rcases hn b e' with e2 | hge
    ·exact n7 b e e2.symm
    ·have:=(h7.own b e).2;omega
   ·exact n27 b e' e
   ·exact hi rfl
   ·exact (k7 b e).2 i (by omega) hF
theorem Q7.only {N base g:Nat} {w w':World} {s:St} {v1 v2 v3 v4 v5 v6 v7:Value} (h:Q7 N base w s v1 v2 v3 v4 v5 v6 v7) (O:JL g w w') (h1:N≤g) (h2:g<base):Q7 N base w' s v1 v2 v3 v4 v5 v6 v7 :=
 h.on O.below (fun b _ hb=>O.same b (by omega))
theorem Qv.only {N base g:Nat} {w w':World} {v:Value} {t:St} (h:Qv N base w v t) (O:JL g w w') (h1:N≤g) (h2:g<base):Qv N base w' v t :=
 h.on O.below (fun b _ hb=>O.same b (by omega))
theorem QcI (s:St) (v:Value) (N:Nat) (w:World) (o:Ch) (hv:StV w N v s) (hN:N≤w.heap.size) (hfit:s.fits) (hfew:few s) :
  Calls Tryz.prog 22 #[v,.agg #[.int .i64 o.state,.bool o.ordered,.int .i64 o.conn,.int .i64 o.ochan,.int .i64 o.send,.int .i64 o.recv,.int .i64 o.ack]] w fun e w'=>Below w.heap.size w w'∧∃ v',e=.returned (.tuple #[v',.int .i64 (J2 s (Jn s)),.int .i64 (Jn s)])∧Qv N w.heap.size w' v' (Qbr s (Jn s) (⟨o.state,o.ordered,o.conn,o.ochan,1,1,1⟩:Ch)):=by
 have HCP:=hid (fun wx (hx:Below w.heap.size w wx)=>QjP s v N wx (hv.below (hx.mono hN)) (Nat.le_trans hN hx.size) hfit hfew)
 have hlc:s.chans.length≤100:=hfew.2.2.1
 obtain ⟨o1,c1,o2,c2,o3,c3,o4,c4,o5,c5,o6,c6,o7,c7,rfl,hm⟩:=hv.open
 clear hv hm hfit hfew
 go_enter Tryz.func22,Tryz.ntmps22
 go_upto_region 1 with fail
 refine ZD ?_
 intro w0 F hs
 have k5:=F.r0.k10.2.2.2.2.2.1
 by_cases h8:8≤s.chans.length
 ·have e8:decide ((8:Int)≤(s.chans.length:Int))=true:=by simp;omega
  have HM:=hid (show Jn s=5 from if_pos h8)
  go_wp2_with (refine F.store 2 rfl rfl rfl rfl rfl Qb rfl (by simp [Value.oneCell']) ?_;intro w1 F1 O1)
  refine Qr Tryz.results22 rfl F1.r2 Qb rfl ⟨F1.b,_,by rw [HM.out];rfl,?_⟩
  rw [HM.out]
  exact Qi _ _ _
 ·have e8:decide ((8:Int)≤(s.chans.length:Int))=false:=by simp;omega
  have HM:=hid (show Jn s=0 from if_neg h8)
  obtain ⟨a0,a1,a2,a3,a4,a5,a6⟩:=F.r1.k7
  have z4:=F.r1.frozen 4
  have z5:=F.r1.frozen 5
  have z6:=F.r1.frozen 6
  go_upto_region 5 with fail
  refine (((F.set1 1 4 _ rfl).set1 1 5 _ rfl).set1 1 6 _ rfl).named (((JL.refl (w.heap.size+1) w0).cell 4 _).cell 5 _ |>.cell 6 _) ?_
  intro w1 F1 O1
  clear a0 a1 a2 a3 a4 a5 a6 z4 z5 z6 k5 hs O1
  obtain ⟨k0,k1,k2,k3,k4,k5,k6,k7,k8,k9⟩:=F1.r0.k10
  go_wp2_with fail
  refine (HCP.out _ F1.b).mono ?_
  rintro e w2 ⟨hb2,p1,d1,p2,d2,p3,d3,p4,d4,p5,d5,p6,d6,p7,d7,rfl,hown⟩
  have F2:=F1.go hb2
  have hg0:=F1.r0.lt
  have hg2:=F1.r2.lt
  have hsz2:=hb2.size
  clear hb2 k0 k1 k2 k3 k4 k5 k6 k7 k8 k9
  have HO2:=hid hown
  clear hown
  go_upto_region 6 with (refine F2.store 0 rfl rfl rfl rfl rfl Qb rfl (by simp [Value.oneCell']) ?_;intro w3 F3 O3)
  have HO3:=hid (HO2.out.only O3 hN hg0)
  have hsz3:=O3.size
  have k5:=F3.r0.k10.2.2.2.2.2.1
  obtain ⟨a0,a1,a2,a3,a4,a5,a6⟩:=F3.r1.k7
  have HS3:=hid hsz3
  clear hsz3
  go_wp2_with (at_builtin;refine Hid.out ?_)
  refine hid ?_
  refine QjW ?_
  intro w4 hr4 hb4
  have HO4:=hid (HO3.out.below hb4)
  have hsz4:=hb4.size
  have hs3:=HS3.out
  refine ZA Qc7 rfl _ _ rfl w1.heap.size _ (s.chans.map Qh) rfl HO4.out.chans _ _ (Qh (⟨o.state,o.ordered,o.conn,o.ochan,1,1,1⟩:Ch)) rfl (Qeu hr4) (YJ (l:=[(⟨o.state,o.ordered,o.conn,o.ochan,1,1,1⟩:Ch)])) (by simp;omega) (by omega) ?_
  intro g da w5 hrow hb5 hg5 hlie
  have F4:=F3.go hb4
  have F5:=F4.past hb5 (by omega) F1.lts
  have hle:(s.chans.map Qh).length+1=(s.chans ++ [(⟨o.state,o.ordered,o.conn,o.ochan,1,1,1⟩:Ch)]).length:=by simp
  rw [hle] at hrow ⊢
  obtain ⟨pa,hpa⟩:∃ pa:Option Addr,some ⟨g,0,none⟩=pa:=⟨_,rfl⟩
  have hrow':QV 54 Qh 7 w5 w1.heap.size (.slice (some ⟨g,0,none⟩) (s.chans ++ [(⟨o.state,o.ordered,o.conn,o.ochan,1,1,1⟩:Ch)]).length da) (s.chans ++ [(⟨o.state,o.ordered,o.conn,o.ochan,1,1,1⟩:Ch)]):=by have:=hrow;rw [show s.chans.map Qh ++ [Qh (⟨o.state,o.ordered,o.conn,o.ochan,1,1,1⟩:Ch)]=(s.chans ++ [(⟨o.state,o.ordered,o.conn,o.ochan,1,1,1⟩:Ch)]).map Qh by simp] at this;exact this
  have ho5:=HO4.out.putChans hg5 hrow' (fun b e=>by obtain rfl:g=b:=(by simpa [Value.ownBlock] using e);exact hlie.imp id (fun h=>by omega))
  rw [hpa] at ho5 ⊢
  have HO5:=hid ho5
  clear hrow hrow' ho5 hb5 hg5 hlie hpa hb4 hs3 hsz4 hr4 k5 a0 a1 a2 a3 a4 a5 a6 hle
  generalize hln:(s.chans ++ [(⟨o.state,o.ordered,o.conn,o.ochan,1,1,1⟩:Ch)]).length=ln at *
  clear hln
  have g5:=F5.r0.k10.2.2.2.2.2.1
  have z5:=F5.r0.frozen 5
  go_upto_region 7 with fail
  refine F5.cell 0 rfl ?_
  intro w6 F6 O6
  have HO6:=hid (HO5.out.only O6 hN hg0)
  clear g5 z5 O6 O3
  obtain ⟨k0,k1,k2,k3,k4,k5,k6,k7,k8,k9⟩:=F6.r0.k10
  go_wp2_with (refine F6.store 2 rfl rfl rfl rfl rfl Qb rfl (by simp [Value.oneCell']) ?_;intro w7 F7 O7)
  refine Qr Tryz.results22 rfl F7.r2 Qb rfl ⟨F7.b,_,by rw [HM.out];rfl,?_⟩
  rw [HM.out]
  exact ((HO6.out.only O7 (by omega) hg2).lower (by omega)).holds
theorem ZQ (s:St) (v:Value) (N:Nat) (w:World) (i:Int) (o:Ch) (hv:StV w N v s) (hN:N≤w.heap.size) (hfit:s.fits) (hfew:few s) (hi:0≤i∧i<(s.chans.length:Int)) :
  Calls Tryz.prog 36 #[v,.int .i64 i,.agg #[.int .i64 o.state,.bool o.ordered,.int .i64 o.conn,.int .i64 o.ochan,.int .i64 o.send,.int .i64 o.recv,.int .i64 o.ack]] w fun e w'=>Below w.heap.size w w'∧∃ v',e=.returned v'∧Qv N w.heap.size w' v' { s with chans:=s.chans.set i.toNat o }:=by
 have HCP:=hid (fun wx (hx:Below w.heap.size w wx)=>QjP s v N wx (hv.below (hx.mono hN)) (Nat.le_trans hN hx.size) hfit hfew)
 have hlc:s.chans.length≤100:=hfew.2.2.1
 obtain ⟨k,rfl⟩:∃ k:Nat,i=(k:Int):=⟨i.toNat,by omega⟩
 obtain ⟨x,hx⟩:∃ x,s.chans[k]?=some x:=⟨_,List.getElem?_eq_getElem (by omega)⟩
 have HX:=hid hx
 obtain ⟨o1,c1,o2,c2,o3,c3,o4,c4,o5,c5,o6,c6,o7,c7,rfl,hm⟩:=hv.open
 clear hv hm hfit hfew hx
 go_enter Tryz.func36,Tryz.ntmps36
 go_upto_region 1 with fail
 refine ZD ?_
 intro w0 F hs
 obtain ⟨k0,k1,k2,k3,k4,k5,k6,k7,k8,k9⟩:=F.r0.k10
 go_wp2_with fail
 refine (HCP.out _ F.b).mono ?_
 rintro e w2 ⟨hb2,p1,d1,p2,d2,p3,d3,p4,d4,p5,d5,p6,d6,p7,d7,rfl,hown⟩
 have F2:=F.go hb2
 have hg0:=F.r0.lt
 have hg2:=F.r2.lt
 have hg1:=F.r1.lt
 clear hb2 k0 k1 k2 k3 k4 k5 k6 k7 k8 k9 hs
 have HO2:=hid hown
 clear hown
 go_upto_region 2 with (refine F2.store 0 rfl rfl rfl rfl rfl Qb rfl (by simp [Value.oneCell']) ?_;intro w3 F3 O3)
 have ho3:=HO2.out.only O3 hN hg0
 obtain ⟨g,rfl,hgb,hgl,hcc,hfz⟩:=Qs.at ho3.chans (r:=Qh x) (i:=k) (by rw [List.getElem?_map,HX.out];rfl)
 have f0:=hcc 0 _ rfl
 have z0:=hfz (k*7)
 have f1:=hcc 1 _ rfl
 have z1:=hfz (k*7+1)
 have f2:=hcc 2 _ rfl
 have z2:=hfz (k*7+2)
 have f3:=hcc 3 _ rfl
 have z3:=hfz (k*7+3)
 have f4:=hcc 4 _ rfl
 have z4:=hfz (k*7+4)
 have f5:=hcc 5 _ rfl
 have z5:=hfz (k*7+5)
 have f6:=hcc 6 _ rfl
 have z6:=hfz (k*7+6)
 simp only [Nat.add_zero] at f0
 have hlt:(k:Int)<(s.chans.length:Int):=by omega
 have k5:=F3.r0.k10.2.2.2.2.2.1
 obtain ⟨a0,a1,a2,a3,a4,a5,a6⟩:=F3.r1.k7
 have hrow:QV 54 Qh 7 (w3.setCells g (k*7) (Qh o)) w0.heap.size (.slice (some ⟨g,0,none⟩) s.chans.length d3) (s.chans.set k o):=by
  have:=Qs.put ho3.chans (i:=k) (r:=Qh o) (by rw [List.length_map];omega) (YJ (l:=[o]) _ (by simp))
  rw [← List.map_set] at this
  exact this
 have ho4:=ho3.putChans (Zs w3 g (k*7) (Qh o)) hrow (fun b e=>.inl e)
 have F4:=F3.past (JP (Nat.le_refl g) (Qh o) (k*7) w3 (Below.refl _ _)) (by omega) (fun q hq=>Nat.lt_of_lt_of_le (F.lts q hq) hgb)
 have HO4:=hid ho4
 clear ho3 ho4 hrow hcc hfz
 obtain ⟨w4,hw4⟩:∃ w4,w3.setCells g (k*7) (Qh o)=w4:=⟨_,rfl⟩
 rw [hw4] at HO4 F4
 have HW4:=hid hw4
 clear hw4 O3
 go_upto_region 3 with fail
 refine QcH HW4.out ?_
 clear k5 a0 a1 a2 a3 a4 a5 a6 f0 z0 f1 z1 f2 z2 f3 z3 f4 z4 f5 z5 f6 z6
 obtain ⟨k0,k1,k2,k3,k4,k5,k6,k7,k8,k9⟩:=F4.r0.k10
 go_wp2_with (refine F4.store 2 rfl rfl rfl rfl rfl Qb rfl (by simp [Value.oneCell']) ?_;intro w7 F7 O7)
 refine QkP Tryz.results36 rfl F7.r2 Qb rfl ⟨F7.b,_,rfl,?_⟩
 exact ((HO4.out.only O7 (by omega) hg2).lower (base':=w.heap.size) (by omega)).holds
end Go.Proofs.YtbgdpfeobklnhaaGreatDoor
