/-
  The drawn regions of the document's Channel.
-/
import Derived.Test.YtbgdpfeobklnhaaGreatDoorcvChMath
import Derived.Test.YtbgdpfeobklnhaaGreatDoorcvCoLive
import Derived.Test.YtbgdpfeobklnhaaGreatDoorcvChAdd
import Derived.Test.YtbgdpfeobklnhaaGreatDoorcvRegions
import Derived.Test.YtbgdpfeobklnhaaGreatDoorcvCoOpened
import Derived.Maps.OwnOps
namespace Go.Proofs.YtbgdpfeobklnhaaGreatDoor
set_option maxRecDepth 1000000
set_option maxHeartbeats 8000000
open Go.RowKit
theorem JL.keep {g k:Nat} {w w':World} {t:TypeId} {cs:List Value} (O:JL g w w') (h:Row w k t cs) (hk:k≠g):Row w' k t cs:=(O.same k hk).trans h
theorem Row.setRowK {w:World} {g:Nat} {t:TypeId} {old:List Value} (h:Row w g t old) (cs:List Value):Row (w.setRow g cs.toArray) g t cs:=setRow_heap w g old.toArray cs.toArray t (0,0) h
theorem Qz (e:Int) (w:World):Calls Tryz.prog 23 #[.int .i64 e] w fun x w'=>x=.returned (.tuple #[.agg #[.string ⟨#[]⟩,.int .i64 0,.int .i64 0,.slice none 0 0,.slice none 0 0,.slice none 0 0,.slice none 0 0,.slice none 0 0,.slice none 0 0,.slice none 0 0],.int .i64 0,.int .i64 e])∧Below w.heap.size w w':=by
 go_enter Tryz.func23,Tryz.ntmps23
 go_upto_region 1 with fail
 refine QgQ ?_
 intro w0 F hs
 clear hs
 go_wp2_with (refine F.store 0 rfl rfl rfl rfl rfl Qb rfl (by simp [Value.oneCell']) ?_;intro w1 F1 O1)
 exact Qr Tryz.results23 rfl F1.r0 Qb rfl ⟨rfl,F1.b⟩
theorem QkO {y0 y1 y3 y5 y7 y8 y9 A0 A1 A2 A3 A4 A5 A6 A7 A8 A9 Aa Ab Ac Ad Ae Af Ag Ah Ai Aj Ak Al Am An Ao:Value} {x0 x1 x2 x3 x4 x5 x6 x7 x8 x9 d0 d2 d3:Value} {gs gr gc:Nat} {cl z:Int} {old:List Value} {w:World} (hgs:Hid (Row w gs 28 [x0,x1,x2,x3,x4,x5,x6,x7,x8,x9])) (hgc:Hid (Row w gc 60 [d0,.int .i64 cl,d2,d3])) (hgr:Hid (Row w gr 60 old)) (hol:old.length=4) (hone:(#[d0,.int .i64 cl,d2,d3]:Array Value).all (·.oneCell')=true) (hc:∀ W,Below w.heap.size w W→Calls Tryz.prog 61 #[.agg #[x0,x1,x2,x3,x4,x5,x6,x7,x8,x9],.int .i64 cl] W fun e w'=>e=.returned (.int .i64 z)∧Below W.heap.size W w') (Q:Exit→Act→World→Prop)
  (hQ:Hid (∀ (σ:Nat→Value) (w':World),Below w.heap.size w w'→Q .normal ⟨#[y0,y1,.pointer (some ⟨gs,0,none⟩),y3,.pointer (some ⟨gr,0,none⟩),.int .i64 z,.pointer (some ⟨gc,0,none⟩),y7,y8,y9,A0,A1,A2,A3,A4,A5,A6,A7,A8,A9,Aa,Ab,Ac,Ad,Ae,Af,Ag,Ah,Ai,Aj,σ 0,σ 1,σ 2,σ 3,σ 4],[]⟩ (w'.setRow gr #[d0,.int .i64 cl,d2,d3]))) :
  Code.wp Tryz.prog (.region 8 ((Tryz.f25.body.bind (Q3 8)).getD #[]) true) Q ⟨#[y0,y1,.pointer (some ⟨gs,0,none⟩),y3,.pointer (some ⟨gr,0,none⟩),y5,.pointer (some ⟨gc,0,none⟩),y7,y8,y9,A0,A1,A2,A3,A4,A5,A6,A7,A8,A9,Aa,Ab,Ac,Ad,Ae,Af,Ag,Ah,Ai,Aj,Ak,Al,Am,An,Ao],[]⟩ w:=by
 conv=>arg 2;arg 2;whnf
 conv=>arg 4;dsimp only
 refine JJ 5 (by kernel_rfl) (fun σ=>#[y0,y1,.pointer (some ⟨gs,0,none⟩),y3,.pointer (some ⟨gr,0,none⟩),y5,.pointer (some ⟨gc,0,none⟩),y7,y8,y9,A0,A1,A2,A3,A4,A5,A6,A7,A8,A9,Aa,Ab,Ac,Ad,Ae,Af,Ag,Ah,Ai,Aj,σ 0,σ 1,σ 2,σ 3,σ 4]) (fun i=>([Ak,Al,Am,An,Ao]:List Value).getD i undef) rfl (fun i X W=>match i with
  | 0=>X=.agg #[d0,.int .i64 cl,d2,d3]
  | 1=>X=.agg #[x0,x1,x2,x3,x4,x5,x6,x7,x8,x9]
  | 2=>X=.pointer (some ⟨gc,1,none⟩)
  | 3=>X=.int .i64 cl
  | 4=>X=.int .i64 z
  | _=>True) ?_ (by kernel_rfl) ?_ ?_
 ·intro i X W W' HB H
  iterate 5 (obtain _ | i:=i;first | exact H)
  exact H
 ·refine ⟨?_,?_,?_,?_,?_,trivial⟩
  all_goals (intro σ W HJ hdep;simp [Region.binds] at hdep;have HJ:=hid HJ;obtain ⟨gsk0,gsk1,gsk2,gsk3,gsk4,gsk5,gsk6,gsk7,gsk8,gsk9⟩:=(rg hgs HJ).k10;obtain ⟨gck0,gck1,gck2,gck3⟩:=(rg hgc HJ).k4)
  ·refine Qa rfl rfl ?_;go_simp;exact Ql.mk0 _ (by first | rfl | simp [Qe, *]) HJ.out rfl
  ·refine Qa rfl rfl ?_;go_simp;exact Ql.mk0 _ (by first | rfl | simp [Qe, *]) HJ.out rfl
  ·refine Qa rfl rfl ?_;go_simp;exact Ql.mk0 _ (by first | rfl | simp [Qe, *]) HJ.out rfl
  ·refine Qa rfl rfl ?_;go_simp;exact Ql.mk0 _ (by first | rfl | simp [Qe, *]) HJ.out rfl
  ·have HC:=hid (hc W HJ.out);refine Qa rfl rfl ?_;go_simp;refine HC.out.mono ?_;rintro e w2 ⟨rfl,hb⟩;exact Ql.mk _ (by first | rfl | simp [Qe, *]) hb HJ.out rfl
 ·intro σ w' hb hg
  have h0:σ 0=.agg #[d0,.int .i64 cl,d2,d3]:=hg 0 (by decide)
  have h4:σ 4=.int .i64 z:=hg 4 (by decide)
  have hrr:=hgr.out.below hb hgr.out.lt
  have HQ:=hid (hQ.out σ w' hb)
  clear hg hb
  simp only [List.drop_succ_cons,List.drop_zero]
  refine wpList_store_row rfl _ _ _ rfl gr #[d0,.int .i64 cl,d2,d3] rfl h0 60 old.toArray hrr (by kernel_rfl) (by simpa using hol) hone ?_
  rw [h0,h4] at HQ
  go_wp2
  exact HQ.out
theorem Z4 (s:St) (v:Value) (N:Nat) (w:World) (i:Int) (hv:StV w N v s) (hN:N≤w.heap.size) (h0:Qk s=0) :
  Calls Tryz.prog 25 #[v,.int .i64 i] w fun e w'=>Below w.heap.size w w'∧∃ x:Cn,e=.returned (.tuple #[.agg #[.int .i64 x.state,.int .i64 x.client,.int .i64 x.oclient,.int .i64 x.oconn],.int .i64 (QI s i)])∧(QI s i=0→x=ZP s i):=by
 have HE:=hid (show QI s i=if i<0∨(s.conns.length:Int)≤i then 6 else if (ZP s i).state≠3 then 12 else if (ZP s i).oconn<0 then 8 else YZ s (ZP s i).client from rfl)
 have HLV:=hid (fun (c:Int) wx (hx:Below w.heap.size w wx)=>QiM s v N wx c (hv.below (hx.mono hN)) (Nat.le_trans hN hx.size) h0)
 obtain ⟨o1,c1,o2,c2,o3,c3,o4,c4,o5,c5,o6,c6,o7,c7,rfl,hm⟩:=hv.open
 have HM:=hid hm
 clear hv hm h0
 go_enter Tryz.func25,Tryz.ntmps25
 go_upto_region 1 with fail
 refine QgR ?_
 intro w0 F hs
 clear hs
 have k4:=F.r0.k10.2.2.2.2.1
 by_cases h0:i<0
 ·have e0:decide (i<0)=true:=by simpa using h0
  go_wp2_with (refine F.store 1 rfl rfl rfl rfl rfl JA rfl (by simp [Value.oneCell']) ?_;intro w1 F1 O1)
  refine JU Tryz.results25 rfl F1.r1 JA rfl ⟨F1.b,⟨0,0,0,0⟩,by rw [HE.out,if_pos (.inl h0)];rfl,fun e=>?_⟩
  rw [HE.out,if_pos (.inl h0)] at e
  cases e
 have e0:decide (i<0)=false:=by simpa using h0
 by_cases h1:(s.conns.length:Int)≤i
 ·have e1:decide ((s.conns.length:Int)≤i)=true:=by simpa using h1
  go_wp2_with (refine F.store 1 rfl rfl rfl rfl rfl JA rfl (by simp [Value.oneCell']) ?_;intro w1 F1 O1)
  refine JU Tryz.results25 rfl F1.r1 JA rfl ⟨F1.b,⟨0,0,0,0⟩,by rw [HE.out,if_pos (.inr h1)];rfl,fun e=>?_⟩
  rw [HE.out,if_pos (.inr h1)] at e
  cases e
 have e1:decide ((s.conns.length:Int)≤i)=false:=by simpa using h1
 have HE2:=hid (HE.out.trans (if_neg (by omega)))
 obtain ⟨k,rfl⟩:∃ k:Nat,i=(k:Int):=⟨i.toNat,by omega⟩
 have hlt:(k:Int)<(s.conns.length:Int):=by omega
 obtain ⟨x,hx⟩:∃ x,s.conns[k]?=some x:=⟨_,List.getElem?_eq_getElem (by omega)⟩
 have HX:=hid (ZY hx)
 rw [ZY hx] at HE2
 obtain ⟨b,f,rfl,hb,x0,x1,x2,x3⟩:=(HM.out.below (F.b.mono hN)).conns.conn rfl hx
 clear hx HE
 go_upto_region 4 with fail
 refine F.box ?_
 intro w1 F1 hs1 hb1
 clear x0 x1 x2 x3 k4 hb hs1 hb1
 obtain ⟨y0,y1,y2,y3⟩:=F1.r2.k4
 by_cases h2:x.state=3
 ·have e2:(x.state != 3)=false:=by simpa using h2
  by_cases h3:x.oconn<0
  ·have e3:decide (x.oconn<0)=true:=by simpa using h3
   have HL:=hid (HE2.out.trans ((if_neg (by simp [h2])).trans (if_pos h3)))
   clear h2 h3
   go_wp2_with (refine F1.store 1 rfl rfl rfl rfl rfl JA rfl (by simp [Value.oneCell']) ?_;intro w2 F2 O2)
   refine JU Tryz.results25 rfl F2.r1 JA rfl ⟨F2.b,x,by rw [HL.out];rfl,fun _=>HX.out.symm⟩
  have e3:decide (x.oconn<0)=false:=by simpa using h3
  have HL:=hid (HE2.out.trans ((if_neg (by simp [h2])).trans (if_neg h3)))
  clear h2 h3
  go_upto_region 8 with fail
  refine QkO (hid F1.r0) (hid F1.r2) (z:=YZ s x.client) (hid F1.r1) rfl (by simp [Value.oneCell']) (fun W hW=>HLV.out x.client W (F1.go hW).b) _ (hid ?_)
  intro σ w2 hb2
  have F2:=F1.go hb2
  have F3:=F2.only (i:=1) rfl (Row.setRowK F2.r1 [.int .i64 x.state,.int .i64 x.client,.int .i64 x.oclient,.int .i64 x.oconn]) (JL.row _ _ _)
  clear hb2 y0 y1 y2 y3
  generalize YZ s x.client=zz at *
  go_wp2
  refine JU Tryz.results25 rfl F3.r1 JA rfl ⟨F3.b,x,by rw [HL.out];rfl,fun _=>HX.out.symm⟩
 ·have e2:(x.state != 3)=true:=by simpa using h2
  have HL:=hid (HE2.out.trans (if_pos h2))
  clear h2
  go_wp2_with (refine F1.store 1 rfl rfl rfl rfl rfl JA rfl (by simp [Value.oneCell']) ?_;intro w2 F2 O2)
  refine JU Tryz.results25 rfl F2.r1 JA rfl ⟨F2.b,x,by rw [HL.out];rfl,fun _=>HX.out.symm⟩
theorem Y4 {a b:Int} (h:a≠b):Lit.int .u8 a≠Lit.int .u8 b:=fun e=>h (by injection e)
theorem QaX (w:World):∃ w1 w2 w3 w4 w5,(Instr.makeMap 58 none).run Tryz.prog w=.ok (.map (some w.heap.size)) w1∧(Instr.mapUpdate 58 (.map (some w.heap.size)) (.int .u8 97) (.int .i64 1)).run Tryz.prog w1=.ok () w2∧(Instr.mapUpdate 58 (.map (some w.heap.size)) (.int .u8 99) (.int .i64 2)).run Tryz.prog w2=.ok () w3∧(Instr.mapUpdate 58 (.map (some w.heap.size)) (.int .u8 120) (.int .i64 3)).run Tryz.prog w3=.ok () w4∧(Instr.mapUpdate 58 (.map (some w.heap.size)) (.int .u8 121) (.int .i64 3)).run Tryz.prog w4=.ok () w5∧Below w.heap.size w w5∧(Instr.lookup 58 (.map (some w.heap.size)) (.int .u8 97) false).run Tryz.prog w5=.ok (.int .i64 1) w5∧(Instr.lookup 58 (.map (some w.heap.size)) (.int .u8 99) false).run Tryz.prog w5=.ok (.int .i64 2) w5∧(Instr.lookup 58 (.map (some w.heap.size)) (.int .u8 120) false).run Tryz.prog w5=.ok (.int .i64 3) w5∧(Instr.lookup 58 (.map (some w.heap.size)) (.int .u8 121) false).run Tryz.prog w5=.ok (.int .i64 3) w5:=by
 have law:Go.Maps.Keyed Tryz.prog 5:=Go.Maps.int_keyed Tryz.underlying5
 have hz:∀ w:World,(zeroValue 3).run Tryz.prog w=.ok (.int .i64 0) w:=fun _=>by kernel_rfl
 have ky:∀ a:Int,(Lit.int .u8 a).wf=true→keyOf Tryz.prog 5 (.int .u8 a)=some (.int .u8 a):=fun a h=>Go.Maps.keyOf_int_mk Tryz.underlying5 h
 have ev:∀ a:Int,(Lit.int .i64 a).wf=true→plainElem (H:=Unit) Tryz.prog 3 (.int .i64 a)=some (.lit (.int .i64 a),[]):=fun a h=>plainElem_int Tryz.underlying3 h
 have O1:(w.alloc (.map #[] 0)).ownsMap Tryz.prog 5 (plainElem (H:=Unit) Tryz.prog 3) w.heap.size 0 (.map []):=World.ownsMap_made _ _ _ _
 have B1:Below w.heap.size w (w.alloc (.map #[] 0)):=(Below.refl _ _).alloc (Nat.le_refl _) _
 obtain ⟨w2,r1,O2,g1⟩:=O1.update law Tryz.underlying58 (by decide) (ky 97 (by decide)) (ev 1 (by decide))
 have B2:Below w.heap.size w w2:=B1.grown g1 B1.size (fun k hk=>by obtain rfl:=Option.some.inj hk;exact Nat.le_refl _)
 obtain ⟨w3,r2,O3,g2⟩:=O2.update law Tryz.underlying58 (by decide) (ky 99 (by decide)) (ev 2 (by decide))
 have B3:Below w.heap.size w w3:=B2.grown g2 B2.size (fun k hk=>by obtain rfl:=Option.some.inj hk;exact Nat.le_refl _)
 obtain ⟨w4,r3,O4,g3⟩:=O3.update law Tryz.underlying58 (by decide) (ky 120 (by decide)) (ev 3 (by decide))
 have B4:Below w.heap.size w w4:=B3.grown g3 B3.size (fun k hk=>by obtain rfl:=Option.some.inj hk;exact Nat.le_refl _)
 obtain ⟨w5,r4,O5,g4⟩:=O4.update law Tryz.underlying58 (by decide) (ky 121 (by decide)) (ev 3 (by decide))
 have B5:Below w.heap.size w w5:=B4.grown g4 B4.size (fun k hk=>by obtain rfl:=Option.some.inj hk;exact Nat.le_refl _)
 obtain ⟨c0,l0,a0,-⟩:=O5.lookup_int law Tryz.underlying58 Tryz.underlying3 (hz _) (ky 97 (by decide))
 rw [Maps.atKey_put_other (Y4 (by decide)),Maps.atKey_put_other (Y4 (by decide)),Maps.atKey_put_other (Y4 (by decide)),Maps.atKey_put_same Maps.isMap_empty (show WideAt.IsKeyLit (.int .u8 97) from trivial)] at a0
 obtain rfl:c0=1:=by simpa using a0.symm
 obtain ⟨c1,l1,a1,-⟩:=O5.lookup_int law Tryz.underlying58 Tryz.underlying3 (hz _) (ky 99 (by decide))
 rw [Maps.atKey_put_other (Y4 (by decide)),Maps.atKey_put_other (Y4 (by decide)),Maps.atKey_put_same (Maps.isMap_empty.put _ _) (show WideAt.IsKeyLit (.int .u8 99) from trivial)] at a1
 obtain rfl:c1=2:=by simpa using a1.symm
 obtain ⟨c2,l2,a2,-⟩:=O5.lookup_int law Tryz.underlying58 Tryz.underlying3 (hz _) (ky 120 (by decide))
 rw [Maps.atKey_put_other (Y4 (by decide)),Maps.atKey_put_same ((Maps.isMap_empty.put _ _).put _ _) (show WideAt.IsKeyLit (.int .u8 120) from trivial)] at a2
 obtain rfl:c2=3:=by simpa using a2.symm
 obtain ⟨c3,l3,a3,-⟩:=O5.lookup_int law Tryz.underlying58 Tryz.underlying3 (hz _) (ky 121 (by decide))
 rw [Maps.atKey_put_same (((Maps.isMap_empty.put _ _).put _ _).put _ _) (show WideAt.IsKeyLit (.int .u8 121) from trivial)] at a3
 obtain rfl:c3=3:=by simpa using a3.symm
 exact ⟨_,w2,w3,w4,w5,rfl,r1,r2,r3,r4,B5,l0,l1,l2,l3⟩
theorem QbF (w:World):∃ w1 w2 w3 w4 w5,(Instr.makeMap 58 none).run Tryz.prog w=.ok (.map (some w.heap.size)) w1∧(Instr.mapUpdate 58 (.map (some w.heap.size)) (.int .u8 116) (.int .i64 1)).run Tryz.prog w1=.ok () w2∧(Instr.mapUpdate 58 (.map (some w.heap.size)) (.int .u8 97) (.int .i64 2)).run Tryz.prog w2=.ok () w3∧(Instr.mapUpdate 58 (.map (some w.heap.size)) (.int .u8 99) (.int .i64 3)).run Tryz.prog w3=.ok () w4∧(Instr.mapUpdate 58 (.map (some w.heap.size)) (.int .u8 121) (.int .i64 4)).run Tryz.prog w4=.ok () w5∧Below w.heap.size w w5∧(Instr.lookup 58 (.map (some w.heap.size)) (.int .u8 116) false).run Tryz.prog w5=.ok (.int .i64 1) w5∧(Instr.lookup 58 (.map (some w.heap.size)) (.int .u8 97) false).run Tryz.prog w5=.ok (.int .i64 2) w5∧(Instr.lookup 58 (.map (some w.heap.size)) (.int .u8 99) false).run Tryz.prog w5=.ok (.int .i64 3) w5∧(Instr.lookup 58 (.map (some w.heap.size)) (.int .u8 121) false).run Tryz.prog w5=.ok (.int .i64 4) w5:=by
 have law:Go.Maps.Keyed Tryz.prog 5:=Go.Maps.int_keyed Tryz.underlying5
 have hz:∀ w:World,(zeroValue 3).run Tryz.prog w=.ok (.int .i64 0) w:=fun _=>by kernel_rfl
 have ky:∀ a:Int,(Lit.int .u8 a).wf=true→keyOf Tryz.prog 5 (.int .u8 a)=some (.int .u8 a):=fun a h=>Go.Maps.keyOf_int_mk Tryz.underlying5 h
 have ev:∀ a:Int,(Lit.int .i64 a).wf=true→plainElem (H:=Unit) Tryz.prog 3 (.int .i64 a)=some (.lit (.int .i64 a),[]):=fun a h=>plainElem_int Tryz.underlying3 h
 have O1:(w.alloc (.map #[] 0)).ownsMap Tryz.prog 5 (plainElem (H:=Unit) Tryz.prog 3) w.heap.size 0 (.map []):=World.ownsMap_made _ _ _ _
 have B1:Below w.heap.size w (w.alloc (.map #[] 0)):=(Below.refl _ _).alloc (Nat.le_refl _) _
 obtain ⟨w2,r1,O2,g1⟩:=O1.update law Tryz.underlying58 (by decide) (ky 116 (by decide)) (ev 1 (by decide))
 have B2:Below w.heap.size w w2:=B1.grown g1 B1.size (fun k hk=>by obtain rfl:=Option.some.inj hk;exact Nat.le_refl _)
 obtain ⟨w3,r2,O3,g2⟩:=O2.update law Tryz.underlying58 (by decide) (ky 97 (by decide)) (ev 2 (by decide))
 have B3:Below w.heap.size w w3:=B2.grown g2 B2.size (fun k hk=>by obtain rfl:=Option.some.inj hk;exact Nat.le_refl _)
 obtain ⟨w4,r3,O4,g3⟩:=O3.update law Tryz.underlying58 (by decide) (ky 99 (by decide)) (ev 3 (by decide))
 have B4:Below w.heap.size w w4:=B3.grown g3 B3.size (fun k hk=>by obtain rfl:=Option.some.inj hk;exact Nat.le_refl _)
 obtain ⟨w5,r4,O5,g4⟩:=O4.update law Tryz.underlying58 (by decide) (ky 121 (by decide)) (ev 4 (by decide))
 have B5:Below w.heap.size w w5:=B4.grown g4 B4.size (fun k hk=>by obtain rfl:=Option.some.inj hk;exact Nat.le_refl _)
 obtain ⟨c0,l0,a0,-⟩:=O5.lookup_int law Tryz.underlying58 Tryz.underlying3 (hz _) (ky 116 (by decide))
 rw [Maps.atKey_put_other (Y4 (by decide)),Maps.atKey_put_other (Y4 (by decide)),Maps.atKey_put_other (Y4 (by decide)),Maps.atKey_put_same Maps.isMap_empty (show WideAt.IsKeyLit (.int .u8 116) from trivial)] at a0
 obtain rfl:c0=1:=by simpa using a0.symm
 obtain ⟨c1,l1,a1,-⟩:=O5.lookup_int law Tryz.underlying58 Tryz.underlying3 (hz _) (ky 97 (by decide))
 rw [Maps.atKey_put_other (Y4 (by decide)),Maps.atKey_put_other (Y4 (by decide)),Maps.atKey_put_same (Maps.isMap_empty.put _ _) (show WideAt.IsKeyLit (.int .u8 97) from trivial)] at a1
 obtain rfl:c1=2:=by simpa using a1.symm
 obtain ⟨c2,l2,a2,-⟩:=O5.lookup_int law Tryz.underlying58 Tryz.underlying3 (hz _) (ky 99 (by decide))
 rw [Maps.atKey_put_other (Y4 (by decide)),Maps.atKey_put_same ((Maps.isMap_empty.put _ _).put _ _) (show WideAt.IsKeyLit (.int .u8 99) from trivial)] at a2
 obtain rfl:c2=3:=by simpa using a2.symm
 obtain ⟨c3,l3,a3,-⟩:=O5.lookup_int law Tryz.underlying58 Tryz.underlying3 (hz _) (ky 121 (by decide))
 rw [Maps.atKey_put_same (((Maps.isMap_empty.put _ _).put _ _).put _ _) (show WideAt.IsKeyLit (.int .u8 121) from trivial)] at a3
 obtain rfl:c3=4:=by simpa using a3.symm
 exact ⟨_,w2,w3,w4,w5,rfl,r1,r2,r3,r4,B5,l0,l1,l2,l3⟩
theorem QgM {y0 y1 y2 y5 y6 y7 y8 y9 A0 Ab Am Ax AI AT B4 Bf Bq BB BW C6 C7 C8 C9 Ca Cb Cc Cd Ce Cf Cg Ch Ci Cj Ck Cl Cm Cn Co Cp Cq Cr Cs Ct Cu Cv Cw Cx Cy Cz CA CB CC CD CE CF CG CH CI CJ CK CL CM CN CO CP CQ CR CS CT CU CV CW CX CY CZ D0 D1 D2 D3 D4 D5 D6 D7 D8 D9 Da Db Dc Dd De Df Dg Dh A1 A2 A3 A4 A5 A6 A7 A8 A9 Aa Ac Ad Ae Af Ag Ah Ai Aj Ak Al An Ao Ap Aq Ar As At Au Av Aw Ay Az AA AB AC AD AE AF AG AH AJ AK AL AM AN AO AP AQ AR AS AU AV AW AX AY AZ B0 B1 B2 B3 B5 B6 B7 B8 B9 Ba Bb Bc Bd Be Bg Bh Bi Bj Bk Bl Bm Bn Bo Bp Br Bs Bt Bu Bv Bw Bx By Bz BA BC BD BE BF BG BH BI BJ BK BL BM BN BO BP BQ BR BS BT BU BV BX BY BZ C0 C1 C2 C3 C4 C5 z3 z4 Di Dj Dk Dl:Value} {c0 c1 c2 c3 c4 c5 c6:Value} {gc:Nat} {w:World} (hgc:Hid (Row w gc 54 [c0,c1,c2,c3,c4,c5,c6]))  (Q:Exit→Act→World→Prop)
  (hQ:Hid (∀ (σ:Nat→Value) (w':World),Below w.heap.size w w'→σ 4=c2→σ 5=c1→Q .normal ⟨#[y0,y1,y2,σ 4,σ 5,y5,y6,y7,y8,y9,A0,Ab,Am,Ax,AI,AT,B4,Bf,Bq,BB,.pointer (some ⟨gc,0,none⟩),BW,C6,C7,C8,C9,Ca,Cb,Cc,Cd,Ce,Cf,Cg,Ch,Ci,Cj,Ck,Cl,Cm,Cn,Co,Cp,Cq,Cr,Cs,Ct,Cu,Cv,Cw,Cx,Cy,Cz,CA,CB,CC,CD,CE,CF,CG,CH,CI,CJ,CK,CL,CM,CN,CO,CP,CQ,CR,CS,CT,CU,CV,CW,σ 0,σ 1,σ 2,σ 3,CX,CY,CZ,D0,D1,D2,D3,D4,D5,D6,D7,D8,D9,Da,Db,Dc,Dd,De,Df,Dg,Dh,A1,A2,A3,A4,A5,A6,A7,A8,A9,Aa,Ac,Ad,Ae,Af,Ag,Ah,Ai,Aj,Ak,Al,An,Ao,Ap,Aq,Ar,As,At,Au,Av,Aw,Ay,Az,AA,AB,AC,AD,AE,AF,AG,AH,AJ,AK,AL,AM,AN,AO,AP,AQ,AR,AS,AU,AV,AW,AX,AY,AZ,B0,B1,B2,B3,B5,B6,B7,B8,B9,Ba,Bb,Bc,Bd,Be,Bg,Bh,Bi,Bj,Bk,Bl,Bm,Bn,Bo,Bp,Br,Bs,Bt,Bu,Bv,Bw,Bx,By,Bz,BA,BC,BD,BE,BF,BG,BH,BI,BJ,BK,BL,BM,BN,BO,BP,BQ,BR,BS,BT,BU,BV,BX,BY,BZ,C0,C1,C2,C3,C4,C5],[]⟩ w')) :
  Code.wp Tryz.prog (.region 13 ((Tryz.f6.body.bind (Q3 13)).getD #[]) true) Q ⟨#[y0,y1,y2,z3,z4,y5,y6,y7,y8,y9,A0,Ab,Am,Ax,AI,AT,B4,Bf,Bq,BB,.pointer (some ⟨gc,0,none⟩),BW,C6,C7,C8,C9,Ca,Cb,Cc,Cd,Ce,Cf,Cg,Ch,Ci,Cj,Ck,Cl,Cm,Cn,Co,Cp,Cq,Cr,Cs,Ct,Cu,Cv,Cw,Cx,Cy,Cz,CA,CB,CC,CD,CE,CF,CG,CH,CI,CJ,CK,CL,CM,CN,CO,CP,CQ,CR,CS,CT,CU,CV,CW,Di,Dj,Dk,Dl,CX,CY,CZ,D0,D1,D2,D3,D4,D5,D6,D7,D8,D9,Da,Db,Dc,Dd,De,Df,Dg,Dh,A1,A2,A3,A4,A5,A6,A7,A8,A9,Aa,Ac,Ad,Ae,Af,Ag,Ah,Ai,Aj,Ak,Al,An,Ao,Ap,Aq,Ar,As,At,Au,Av,Aw,Ay,Az,AA,AB,AC,AD,AE,AF,AG,AH,AJ,AK,AL,AM,AN,AO,AP,AQ,AR,AS,AU,AV,AW,AX,AY,AZ,B0,B1,B2,B3,B5,B6,B7,B8,B9,Ba,Bb,Bc,Bd,Be,Bg,Bh,Bi,Bj,Bk,Bl,Bm,Bn,Bo,Bp,Br,Bs,Bt,Bu,Bv,Bw,Bx,By,Bz,BA,BC,BD,BE,BF,BG,BH,BI,BJ,BK,BL,BM,BN,BO,BP,BQ,BR,BS,BT,BU,BV,BX,BY,BZ,C0,C1,C2,C3,C4,C5],[]⟩ w:=by
 conv=>arg 2;arg 2;whnf
 conv=>arg 4;dsimp only
 refine QT (by kernel_rfl) (fun σ=>#[y0,y1,y2,σ 4,σ 5,y5,y6,y7,y8,y9,A0,Ab,Am,Ax,AI,AT,B4,Bf,Bq,BB,.pointer (some ⟨gc,0,none⟩),BW,C6,C7,C8,C9,Ca,Cb,Cc,Cd,Ce,Cf,Cg,Ch,Ci,Cj,Ck,Cl,Cm,Cn,Co,Cp,Cq,Cr,Cs,Ct,Cu,Cv,Cw,Cx,Cy,Cz,CA,CB,CC,CD,CE,CF,CG,CH,CI,CJ,CK,CL,CM,CN,CO,CP,CQ,CR,CS,CT,CU,CV,CW,σ 0,σ 1,σ 2,σ 3,CX,CY,CZ,D0,D1,D2,D3,D4,D5,D6,D7,D8,D9,Da,Db,Dc,Dd,De,Df,Dg,Dh,A1,A2,A3,A4,A5,A6,A7,A8,A9,Aa,Ac,Ad,Ae,Af,Ag,Ah,Ai,Aj,Ak,Al,An,Ao,Ap,Aq,Ar,As,At,Au,Av,Aw,Ay,Az,AA,AB,AC,AD,AE,AF,AG,AH,AJ,AK,AL,AM,AN,AO,AP,AQ,AR,AS,AU,AV,AW,AX,AY,AZ,B0,B1,B2,B3,B5,B6,B7,B8,B9,Ba,Bb,Bc,Bd,Be,Bg,Bh,Bi,Bj,Bk,Bl,Bm,Bn,Bo,Bp,Br,Bs,Bt,Bu,Bv,Bw,Bx,By,Bz,BA,BC,BD,BE,BF,BG,BH,BI,BJ,BK,BL,BM,BN,BO,BP,BQ,BR,BS,BT,BU,BV,BX,BY,BZ,C0,C1,C2,C3,C4,C5]) (fun i=>([Di,Dj,Dk,Dl,z3,z4]:List Value).getD i undef) rfl (fun i X W=>match i with
  | 0=>X=.pointer (some ⟨gc,2,none⟩)
  | 1=>X=c2
  | 2=>X=.pointer (some ⟨gc,1,none⟩)
  | 3=>X=c1
  | 4=>X=c2
  | 5=>X=c1
  | _=>True) ?_ (by kernel_rfl) ?_ ?_
 ·intro i X W W' HB H
  iterate 6 (obtain _ | i:=i;first | exact H)
  exact H
 ·refine ⟨?_,?_,?_,?_,?_,?_,trivial⟩
  all_goals (intro σ W HJ hdep;simp [Region.binds] at hdep;have HJ:=hid HJ;obtain ⟨gck0,gck1,gck2,gck3,gck4,gck5,gck6⟩:=(rg hgc HJ).k7)
  ·refine Qa rfl rfl ?_;go_simp;exact Ql.mk0 _ (by first | rfl | simp [Qe, *]) HJ.out rfl
  ·refine Qa rfl rfl ?_;go_simp;exact Ql.mk0 _ (by first | rfl | simp [Qe, *]) HJ.out rfl
  ·refine Qa rfl rfl ?_;go_simp;exact Ql.mk0 _ (by first | rfl | simp [Qe, *]) HJ.out rfl
  ·refine Qa rfl rfl ?_;go_simp;exact Ql.mk0 _ (by first | rfl | simp [Qe, *]) HJ.out rfl
  ·refine Qa rfl rfl ?_;go_simp;exact Ql.mk0 _ (by first | rfl | simp [Qe, *]) HJ.out rfl
  ·refine Qa rfl rfl ?_;go_simp;exact Ql.mk0 _ (by first | rfl | simp [Qe, *]) HJ.out rfl
 ·intro σ w' hb hg
  exact hQ.out σ w' hb (hg 4 (by decide)) (hg 5 (by decide))
theorem QgN {y0 y1 y2 y3 y4 y6 y7 y9 A8 Aj Au AP AX B1 Bc Bn By BJ C3 C4 C5 C6 C7 C8 C9 Ca Cb Cc Cd Ce Cf Cg Ch Ci Cj Ck Cl Cm Cn Co Cp Cq Cr Cs Ct Cu Cv Cw Cx Cy Cz CA CB CC CD CE CF CG CH CI CJ CK CL CM CN CO CP CQ CR CS CT CU CV CW CX CY CZ D0 D1 D2 D3 D4 D5 D6 D7 D8 D9 Da Db Dc Dd De Df Dg A9 Aa Ab Ac Ad Ae Af Ag Ah Ai Ak Al Am An Ao Ap Aq Ar As At Av Aw Ax Ay Az AA AB AC AD AE AF AG AH AI AJ AK AL AM AN AO AQ AR AS AT AU AV AW AY AZ B0 B2 B3 B4 B5 B6 B7 B8 B9 Ba Bb Bd Be Bf Bg Bh Bi Bj Bk Bl Bm Bo Bp Bq Br Bs Bt Bu Bv Bw Bx Bz BA BB BC BD BE BF BG BH BI BK BL BM BN BO BP BQ BR BS BT BU BV BW BX BY BZ C0 C1 C2 Dr Dh Di Dj Dk Dl Dm Dn Do Dp Dq:Value} {x0 x1 x2 x3 x4 x5 x6 x7 x8 x9 d0 d2 d3 t0 t1 t2 t3 t4 t5 t6 u0 u1 u2 u3 u4 u5 u6 u7 u8 u9 A0 A1 A2 A3 A4 A5 A6 A7:Value} {gs gh gc gm:Nat} {cl q z:Int} {key val:List (BitVec 8)} {w:World} (hgs:Hid (Row w gs 28 [x0,x1,x2,x3,x4,x5,x6,x7,x8,x9])) (hgc:Hid (Row w gc 60 [d0,.int .i64 cl,d2,d3])) (hgm:Hid (Row w gm 54 [t0,t1,t2,t3,t4,t5,t6])) (hgh:Hid (Row w gh 36 [u0,u1,u2,u3,u4,u5,u6,u7,u8,u9,A0,A1,A2,A3,A4,A5,A6,A7])) (hck:∀ W,Below w.heap.size w W→∀ r,Row W r 3 [.int .i64 q]→Calls Tryz.prog 28 #[.string ⟨#[99,104,97,110]⟩,.slice (some ⟨r,0,none⟩) 1 1] W fun e w'=>∃ v,e=.returned v∧Bytes w' w'.heap.size v key∧Below W.heap.size W w') (hcv:∀ W,Below w.heap.size w W→Calls Tryz.prog 29 #[.agg #[t0,t1,t2,t3,t4,t5,t6]] W fun e w'=>∃ v,e=.returned v∧Bytes w' w'.heap.size v val∧Below W.heap.size W w') (hct:∀ W {kv vv:Value},Below w.heap.size w W→Bytes W W.heap.size kv key→Bytes W W.heap.size vv val→Calls Tryz.prog 27 #[.agg #[x0,x1,x2,x3,x4,x5,x6,x7,x8,x9],.int .i64 cl,kv,vv,.agg #[u0,u1,u2,u3,u4,u5,u6,u7,u8,u9,A0,A1,A2,A3,A4,A5,A6,A7]] W fun e w'=>e=.returned (.int .i64 z)∧Below W.heap.size W w') (Q:Exit→Act→World→Prop)
  (hQ:Hid (∀ (σ:Nat→Value) (w':World),Below w.heap.size w w'→σ 10=.int .i64 z→Q .normal ⟨#[y0,y1,y2,y3,y4,.int .i64 q,y6,y7,.pointer (some ⟨gs,0,none⟩),y9,A8,Aj,Au,.pointer (some ⟨gh,0,none⟩),AP,AX,B1,Bc,Bn,By,BJ,.pointer (some ⟨gc,0,none⟩),C3,.pointer (some ⟨gm,0,none⟩),σ 10,C4,C5,C6,C7,C8,C9,Ca,Cb,Cc,Cd,Ce,Cf,Cg,Ch,Ci,Cj,Ck,Cl,Cm,Cn,Co,Cp,Cq,Cr,Cs,Ct,Cu,Cv,Cw,Cx,Cy,Cz,CA,CB,CC,CD,CE,CF,CG,CH,CI,CJ,CK,CL,CM,CN,CO,CP,CQ,CR,CS,CT,CU,CV,CW,CX,CY,CZ,D0,D1,D2,D3,D4,D5,D6,D7,D8,D9,Da,Db,Dc,Dd,De,Df,Dg,A9,Aa,Ab,Ac,Ad,Ae,Af,Ag,Ah,Ai,Ak,Al,Am,An,Ao,Ap,Aq,Ar,As,At,Av,Aw,Ax,Ay,Az,AA,AB,AC,AD,AE,AF,AG,AH,AI,AJ,AK,AL,AM,AN,AO,AQ,AR,AS,AT,AU,AV,AW,σ 0,σ 1,σ 2,σ 3,σ 4,σ 5,σ 6,σ 7,σ 8,σ 9,AY,AZ,B0,B2,B3,B4,B5,B6,B7,B8,B9,Ba,Bb,Bd,Be,Bf,Bg,Bh,Bi,Bj,Bk,Bl,Bm,Bo,Bp,Bq,Br,Bs,Bt,Bu,Bv,Bw,Bx,Bz,BA,BB,BC,BD,BE,BF,BG,BH,BI,BK,BL,BM,BN,BO,BP,BQ,BR,BS,BT,BU,BV,BW,BX,BY,BZ,C0,C1,C2],[]⟩ w')) :
  Code.wp Tryz.prog (.region 27 ((Tryz.f6.body.bind (Q3 27)).getD #[]) true) Q ⟨#[y0,y1,y2,y3,y4,.int .i64 q,y6,y7,.pointer (some ⟨gs,0,none⟩),y9,A8,Aj,Au,.pointer (some ⟨gh,0,none⟩),AP,AX,B1,Bc,Bn,By,BJ,.pointer (some ⟨gc,0,none⟩),C3,.pointer (some ⟨gm,0,none⟩),Dr,C4,C5,C6,C7,C8,C9,Ca,Cb,Cc,Cd,Ce,Cf,Cg,Ch,Ci,Cj,Ck,Cl,Cm,Cn,Co,Cp,Cq,Cr,Cs,Ct,Cu,Cv,Cw,Cx,Cy,Cz,CA,CB,CC,CD,CE,CF,CG,CH,CI,CJ,CK,CL,CM,CN,CO,CP,CQ,CR,CS,CT,CU,CV,CW,CX,CY,CZ,D0,D1,D2,D3,D4,D5,D6,D7,D8,D9,Da,Db,Dc,Dd,De,Df,Dg,A9,Aa,Ab,Ac,Ad,Ae,Af,Ag,Ah,Ai,Ak,Al,Am,An,Ao,Ap,Aq,Ar,As,At,Av,Aw,Ax,Ay,Az,AA,AB,AC,AD,AE,AF,AG,AH,AI,AJ,AK,AL,AM,AN,AO,AQ,AR,AS,AT,AU,AV,AW,Dh,Di,Dj,Dk,Dl,Dm,Dn,Do,Dp,Dq,AY,AZ,B0,B2,B3,B4,B5,B6,B7,B8,B9,Ba,Bb,Bd,Be,Bf,Bg,Bh,Bi,Bj,Bk,Bl,Bm,Bo,Bp,Bq,Br,Bs,Bt,Bu,Bv,Bw,Bx,Bz,BA,BB,BC,BD,BE,BF,BG,BH,BI,BK,BL,BM,BN,BO,BP,BQ,BR,BS,BT,BU,BV,BW,BX,BY,BZ,C0,C1,C2],[]⟩ w:=by
 conv=>arg 2;arg 2;whnf
 conv=>arg 4;dsimp only
 refine QT (by kernel_rfl) (fun σ=>#[y0,y1,y2,y3,y4,.int .i64 q,y6,y7,.pointer (some ⟨gs,0,none⟩),y9,A8,Aj,Au,.pointer (some ⟨gh,0,none⟩),AP,AX,B1,Bc,Bn,By,BJ,.pointer (some ⟨gc,0,none⟩),C3,.pointer (some ⟨gm,0,none⟩),σ 10,C4,C5,C6,C7,C8,C9,Ca,Cb,Cc,Cd,Ce,Cf,Cg,Ch,Ci,Cj,Ck,Cl,Cm,Cn,Co,Cp,Cq,Cr,Cs,Ct,Cu,Cv,Cw,Cx,Cy,Cz,CA,CB,CC,CD,CE,CF,CG,CH,CI,CJ,CK,CL,CM,CN,CO,CP,CQ,CR,CS,CT,CU,CV,CW,CX,CY,CZ,D0,D1,D2,D3,D4,D5,D6,D7,D8,D9,Da,Db,Dc,Dd,De,Df,Dg,A9,Aa,Ab,Ac,Ad,Ae,Af,Ag,Ah,Ai,Ak,Al,Am,An,Ao,Ap,Aq,Ar,As,At,Av,Aw,Ax,Ay,Az,AA,AB,AC,AD,AE,AF,AG,AH,AI,AJ,AK,AL,AM,AN,AO,AQ,AR,AS,AT,AU,AV,AW,σ 0,σ 1,σ 2,σ 3,σ 4,σ 5,σ 6,σ 7,σ 8,σ 9,AY,AZ,B0,B2,B3,B4,B5,B6,B7,B8,B9,Ba,Bb,Bd,Be,Bf,Bg,Bh,Bi,Bj,Bk,Bl,Bm,Bo,Bp,Bq,Br,Bs,Bt,Bu,Bv,Bw,Bx,Bz,BA,BB,BC,BD,BE,BF,BG,BH,BI,BK,BL,BM,BN,BO,BP,BQ,BR,BS,BT,BU,BV,BW,BX,BY,BZ,C0,C1,C2]) (fun i=>([Dh,Di,Dj,Dk,Dl,Dm,Dn,Do,Dp,Dq,Dr]:List Value).getD i undef) rfl (fun i X W=>match i with
  | 0=>X=.agg #[x0,x1,x2,x3,x4,x5,x6,x7,x8,x9]
  | 1=>X=.pointer (some ⟨gc,1,none⟩)
  | 2=>X=.int .i64 cl
  | 3=>X=.int .i64 q
  | 4=>∃ g,X=.slice (some ⟨g,0,none⟩) 1 1∧Row W g 3 [.int .i64 q]
  | 5=>Bytes W W.heap.size X key
  | 6=>X=.agg #[t0,t1,t2,t3,t4,t5,t6]
  | 7=>Bytes W W.heap.size X val
  | 8=>X=.agg #[u0,u1,u2,u3,u4,u5,u6,u7,u8,u9,A0,A1,A2,A3,A4,A5,A6,A7]
  | 9=>X=.int .i64 z
  | 10=>X=.int .i64 z
  | _=>True) ?_ (by kernel_rfl) ?_ ?_
 ·intro i X W W' HB H
  iterate 11 (obtain _ | i:=i;first | exact H | exact (let ⟨g,e,h⟩:=H;⟨g,e,h.below HB h.lt⟩) | exact (H.below HB).mono HB.size)
  exact H
 ·refine ⟨?_,?_,?_,?_,?_,?_,?_,?_,?_,?_,?_,trivial⟩
  all_goals (intro σ W HJ hdep;simp [Region.binds] at hdep;have HJ:=hid HJ;obtain ⟨gsk0,gsk1,gsk2,gsk3,gsk4,gsk5,gsk6,gsk7,gsk8,gsk9⟩:=(rg hgs HJ).k10;obtain ⟨gck0,gck1,gck2,gck3⟩:=(rg hgc HJ).k4;obtain ⟨gmk0,gmk1,gmk2,gmk3,gmk4,gmk5,gmk6⟩:=(rg hgm HJ).k7;obtain ⟨ghk0,ghk1,ghk2,ghk3,ghk4,ghk5,ghk6,ghk7,ghk8,ghk9,ghk10,ghk11,ghk12,ghk13,ghk14,ghk15,ghk16,ghk17⟩:=(rg hgh HJ).k18)
  ·refine Qa rfl rfl ?_;go_simp;exact Ql.mk0 _ (by first | rfl | simp [Qe, *]) HJ.out rfl
  ·refine Qa rfl rfl ?_;go_simp;exact Ql.mk0 _ (by first | rfl | simp [Qe, *]) HJ.out rfl
  ·refine Qa rfl rfl ?_;go_simp;exact Ql.mk0 _ (by first | rfl | simp [Qe, *]) HJ.out rfl
  ·refine Qa rfl rfl ?_;go_simp;exact Ql.mk0 _ (by first | rfl | simp [Qe, *]) HJ.out rfl
  ·refine Qa rfl rfl ?_;go_simp;exact Ql.mk (.slice (some ⟨W.heap.size,0,none⟩) 1 1) (by first | rfl | simp [Qe, *]) ((Below.refl _ _).alloc (Nat.le_refl _) _) HJ.out ⟨W.heap.size,rfl,Row.new _ _ _⟩
  ·obtain ⟨r,er,hrow⟩:=hdep;have HC:=hid (hck W HJ.out r hrow);clear hrow;refine Qa rfl rfl ?_;go_simp;refine HC.out.mono ?_;rintro e w2 ⟨v,rfl,hv,hb⟩;exact Ql.mk v (by first | rfl | simp [Qe, *]) hb HJ.out hv
  ·refine Qa rfl rfl ?_;go_simp;exact Ql.mk0 _ (by first | rfl | simp [Qe, *]) HJ.out rfl
  ·have HC:=hid (hcv W HJ.out);refine Qa rfl rfl ?_;go_simp;refine HC.out.mono ?_;rintro e w2 ⟨v,rfl,hv,hb⟩;exact Ql.mk v (by first | rfl | simp [Qe, *]) hb HJ.out hv
  ·refine Qa rfl rfl ?_;go_simp;exact Ql.mk0 _ (by first | rfl | simp [Qe, *]) HJ.out rfl
  ·obtain ⟨d0,d2,d5,d7,d8⟩:=hdep;have HC:=hid (hct W HJ.out d5 d7);clear d5 d7;refine Qa rfl rfl ?_;go_simp;refine HC.out.mono ?_;rintro e w2 ⟨rfl,hb⟩;exact Ql.mk _ (by first | rfl | simp [Qe, *]) hb HJ.out rfl
  ·refine Qa rfl rfl ?_;go_simp;exact Ql.mk0 _ (by first | rfl | simp [Qe, *]) HJ.out rfl
 ·intro σ w' hb hg
  exact hQ.out σ w' hb (hg 10 (by decide))
theorem QjO {y0 y1 y2 y3 y4 y5 y6 y7 y9 A0 Ab Am Ax Bc Bn By BF BQ C0 C1 C2 C3 C4 C5 C6 C7 C8 C9 Ca Cb Cc Cd Ce Cf Cg Ch Ci Cj Ck Cl Cm Cn Co Cp Cq Cr Cs Ct Cu Cv Cw Cx Cy Cz CA CB CC CD CE CF CG CH CI CJ CK CL CM CN CO CP CQ CR CS CT CU CV CW CX CY CZ D0 D1 D2 D3 D4 D5 D6 D7 D8 D9 Da Db Dc Dd De A1 A2 A3 A4 A5 A6 A7 A8 A9 Aa Ac Ad Ae Af Ag Ah Ai Aj Ak Al An Ao Ap Aq Ar As At Au Av Aw Ay Az AA AB AC AD AE AF AG AH AI AJ AK AL AM AN AO AP AQ AR AS AT AU AV AW AX AY AZ B0 B1 B2 B3 B4 B5 B6 B7 B8 B9 Ba Bb Bd Be Bf Bg Bh Bi Bj Bk Bl Bm Bo Bp Bq Br Bs Bt Bu Bv Bw Bx Bz BA BB BC BD BE BG BH BI BJ BK BL BM BN BO BP BR BS BT BU BV BW BX BY BZ Df Dg Dh Di Dj Dk t0 t1 t2 t3 t4 t5 t6 t7 t8 t9 x0 x1 x2 x3 x4 x6 x7 x8 x9:Value} {gs gr gt n c:Nat} {oa:Option Addr} {old:List Value} {w:World} (h1:gt≠gr) (h2:gs≠gr) (hgt:Row w gt 28 [t0,t1,t2,t3,t4,t5,t6,t7,t8,t9]) (hgs:Row w gs 28 [x0,x1,x2,x3,x4,.slice oa n c,x6,x7,x8,x9]) (hgr:Row w gr 28 old) (hol:old.length=10) (hone:(#[t0,t1,t2,t3,t4,t5,t6,t7,t8,t9]:Array Value).all (·.oneCell')=true) (Q:Exit→Act→World→Prop)
  (hQ:Hid (∀ (σ:Nat→Value) (w':World),JL gr w w'→Row w' gr 28 [t0,t1,t2,t3,t4,t5,t6,t7,t8,t9]→σ 5=.int .i64 (n:Int)→σ 6=.int .i64 0→Q .normal ⟨#[y0,y1,y2,y3,y4,y5,y6,y7,.pointer (some ⟨gs,0,none⟩),y9,A0,Ab,Am,Ax,.pointer (some ⟨gr,0,none⟩),σ 5,σ 6,Bc,Bn,By,BF,BQ,C0,C1,C2,.pointer (some ⟨gt,0,none⟩),C3,C4,C5,C6,C7,C8,C9,Ca,Cb,Cc,Cd,Ce,Cf,Cg,Ch,Ci,Cj,Ck,Cl,Cm,Cn,Co,Cp,Cq,Cr,Cs,Ct,Cu,Cv,Cw,Cx,Cy,Cz,CA,CB,CC,CD,CE,CF,CG,CH,CI,CJ,CK,CL,CM,CN,CO,CP,CQ,CR,CS,CT,CU,CV,CW,CX,CY,CZ,D0,D1,D2,D3,D4,D5,D6,D7,D8,D9,Da,Db,Dc,Dd,De,A1,A2,A3,A4,A5,A6,A7,A8,A9,Aa,Ac,Ad,Ae,Af,Ag,Ah,Ai,Aj,Ak,Al,An,Ao,Ap,Aq,Ar,As,At,Au,Av,Aw,Ay,Az,AA,AB,AC,AD,AE,AF,AG,AH,AI,AJ,AK,AL,AM,AN,AO,AP,AQ,AR,AS,AT,AU,AV,AW,AX,AY,AZ,B0,B1,B2,B3,B4,B5,B6,B7,B8,B9,Ba,Bb,Bd,Be,Bf,Bg,Bh,Bi,Bj,Bk,Bl,Bm,Bo,Bp,Bq,Br,Bs,Bt,Bu,Bv,Bw,Bx,Bz,BA,σ 0,σ 1,σ 2,σ 3,BB,BC,BD,BE,BG,BH,BI,BJ,BK,BL,BM,BN,BO,BP,BR,BS,BT,BU,BV,BW,BX,BY,BZ],[]⟩ w')) :
  Code.wp Tryz.prog (.region 38 ((Tryz.f6.body.bind (Q3 38)).getD #[]) true) Q ⟨#[y0,y1,y2,y3,y4,y5,y6,y7,.pointer (some ⟨gs,0,none⟩),y9,A0,Ab,Am,Ax,.pointer (some ⟨gr,0,none⟩),Df,Dg,Bc,Bn,By,BF,BQ,C0,C1,C2,.pointer (some ⟨gt,0,none⟩),C3,C4,C5,C6,C7,C8,C9,Ca,Cb,Cc,Cd,Ce,Cf,Cg,Ch,Ci,Cj,Ck,Cl,Cm,Cn,Co,Cp,Cq,Cr,Cs,Ct,Cu,Cv,Cw,Cx,Cy,Cz,CA,CB,CC,CD,CE,CF,CG,CH,CI,CJ,CK,CL,CM,CN,CO,CP,CQ,CR,CS,CT,CU,CV,CW,CX,CY,CZ,D0,D1,D2,D3,D4,D5,D6,D7,D8,D9,Da,Db,Dc,Dd,De,A1,A2,A3,A4,A5,A6,A7,A8,A9,Aa,Ac,Ad,Ae,Af,Ag,Ah,Ai,Aj,Ak,Al,An,Ao,Ap,Aq,Ar,As,At,Au,Av,Aw,Ay,Az,AA,AB,AC,AD,AE,AF,AG,AH,AI,AJ,AK,AL,AM,AN,AO,AP,AQ,AR,AS,AT,AU,AV,AW,AX,AY,AZ,B0,B1,B2,B3,B4,B5,B6,B7,B8,B9,Ba,Bb,Bd,Be,Bf,Bg,Bh,Bi,Bj,Bk,Bl,Bm,Bo,Bp,Bq,Br,Bs,Bt,Bu,Bv,Bw,Bx,Bz,BA,Dh,Di,Dj,Dk,BB,BC,BD,BE,BG,BH,BI,BJ,BK,BL,BM,BN,BO,BP,BR,BS,BT,BU,BV,BW,BX,BY,BZ],[]⟩ w:=by
 conv=>arg 2;arg 2;whnf
 conv=>arg 4;dsimp only
 refine Qam (by kernel_rfl) (fun σ=>#[y0,y1,y2,y3,y4,y5,y6,y7,.pointer (some ⟨gs,0,none⟩),y9,A0,Ab,Am,Ax,.pointer (some ⟨gr,0,none⟩),σ 5,σ 6,Bc,Bn,By,BF,BQ,C0,C1,C2,.pointer (some ⟨gt,0,none⟩),C3,C4,C5,C6,C7,C8,C9,Ca,Cb,Cc,Cd,Ce,Cf,Cg,Ch,Ci,Cj,Ck,Cl,Cm,Cn,Co,Cp,Cq,Cr,Cs,Ct,Cu,Cv,Cw,Cx,Cy,Cz,CA,CB,CC,CD,CE,CF,CG,CH,CI,CJ,CK,CL,CM,CN,CO,CP,CQ,CR,CS,CT,CU,CV,CW,CX,CY,CZ,D0,D1,D2,D3,D4,D5,D6,D7,D8,D9,Da,Db,Dc,Dd,De,A1,A2,A3,A4,A5,A6,A7,A8,A9,Aa,Ac,Ad,Ae,Af,Ag,Ah,Ai,Aj,Ak,Al,An,Ao,Ap,Aq,Ar,As,At,Au,Av,Aw,Ay,Az,AA,AB,AC,AD,AE,AF,AG,AH,AI,AJ,AK,AL,AM,AN,AO,AP,AQ,AR,AS,AT,AU,AV,AW,AX,AY,AZ,B0,B1,B2,B3,B4,B5,B6,B7,B8,B9,Ba,Bb,Bd,Be,Bf,Bg,Bh,Bi,Bj,Bk,Bl,Bm,Bo,Bp,Bq,Br,Bs,Bt,Bu,Bv,Bw,Bx,Bz,BA,σ 0,σ 1,σ 2,σ 3,BB,BC,BD,BE,BG,BH,BI,BJ,BK,BL,BM,BN,BO,BP,BR,BS,BT,BU,BV,BW,BX,BY,BZ]) (fun i=>([Dh,Di,Dj,Dk,undef,Df,Dg]:List Value).getD i undef) rfl (fun i X W=>match i with
  | 0=>X=.agg #[t0,t1,t2,t3,t4,t5,t6,t7,t8,t9]
  | 1=>X=.pointer (some ⟨gs,5,none⟩)
  | 2=>X=.slice oa n c
  | 3=>X=.int .i64 (n:Int)
  | 4=>Row W gr 28 [t0,t1,t2,t3,t4,t5,t6,t7,t8,t9]
  | 5=>X=.int .i64 (n:Int)
  | 6=>X=.int .i64 0
  | _=>True) (fun W W'=>W'=W∨W'=W.setRow gr #[t0,t1,t2,t3,t4,t5,t6,t7,t8,t9]) (fun W=>JL gr w W∧∃ o,Row W gr 28 o∧o.length=10) ⟨⟨(Below.refl _ _).drew,fun _ _=>rfl,rfl⟩,old,hgr,hol⟩ ?_ (by kernel_rfl) ?_ ?_
 ·intro i X W W' HR H
  iterate 7 (obtain _ | i:=i;first | exact H | (rcases HR with rfl | rfl;exact H;exact Row.setRowK H _))
  exact H
 ·refine ⟨?_,?_,?_,?_,?_,?_,?_,trivial⟩
  all_goals (intro σ W HJ hdep;simp [Region.binds] at hdep;have HJ:=hid HJ;obtain ⟨a0,a1,a2,a3,a4,a5,a6,a7,a8,a9⟩:=(HJ.out.1.keep hgt h1).k10;obtain ⟨b0,b1,b2,b3,b4,b5,b6,b7,b8,b9⟩:=(HJ.out.1.keep hgs h2).k10)
  ·refine Qa rfl rfl ?_;go_simp;exact ⟨_,(by first | rfl | simp [Qe, *]),.inl rfl,HJ.out,rfl⟩
  ·refine Qa rfl rfl ?_;go_simp;exact ⟨_,(by first | rfl | simp [Qe, *]),.inl rfl,HJ.out,rfl⟩
  ·refine Qa rfl rfl ?_;go_simp;exact ⟨_,(by first | rfl | simp [Qe, *]),.inl rfl,HJ.out,rfl⟩
  ·refine Qa rfl rfl ?_;go_simp;exact ⟨_,(by first | rfl | simp [Qe, *]),.inl rfl,HJ.out,rfl⟩
  ·have e0:σ 0=.agg #[t0,t1,t2,t3,t4,t5,t6,t7,t8,t9]:=by first | exact hdep | exact hdep.1
   obtain ⟨od,hod,hln⟩:=HJ.out.2
   refine Qa rfl rfl ?_
   refine wp_store_row 28 (.tmp 14) (.tmp 192) rfl gr #[t0,t1,t2,t3,t4,t5,t6,t7,t8,t9] rfl e0 28 od.toArray hod (by kernel_rfl) (by simpa using hln) hone ?_
   exact ⟨undef,(by first | rfl | simp [Qe, *]),.inr rfl,⟨⟨HJ.out.1.below.trans (JL.row gr W _).below,fun k hk=>(setRow_other _ _ _ _ hk).trans (HJ.out.1.same k hk),(QaM _ _ _).trans HJ.out.1.size⟩,_,Row.setRowK hod _,rfl⟩,Row.setRowK hod _⟩
  ·refine Qa rfl rfl ?_;go_simp;exact ⟨_,(by first | rfl | simp [Qe, *]),.inl rfl,HJ.out,rfl⟩
  ·refine Qa rfl rfl ?_;go_simp;exact ⟨_,(by first | rfl | simp [Qe, *]),.inl rfl,HJ.out,rfl⟩
 ·intro σ w' hj hg
  exact hQ.out σ w' hj.1 (hg 4 (by decide)) (hg 5 (by decide)) (hg 6 (by decide))
def QcC (base g n c k:Nat) (rs:List (List Value)) (m1 m2 m4 m5 m6:Value) (W:World) (x y:Value):Prop:=Qs 54 7 W base (.slice (some ⟨g,0,none⟩) n c) (rs.set k [x,m1,m2,y,m4,m5,m6])
def Qi8 (base g n c k:Nat) (rs:List (List Value)) (m1 m2 m4 m5 m6:Value) (W:World):Prop:=∃ y,QcC base g n c k rs m1 m2 m4 m5 m6 W (.int .i64 3) y
theorem QgO {y0 y1 y3 y4 y6 y7 y8 y9 A0 Ab Am Ax AI AT B4 Bf Bq BB BI BM BW BX BY BZ C0 C1 C2 C3 C4 C5 C6 C7 C8 C9 Ca Cb Cc Cd Ce Cf Cg Ch Ci Cj Ck Cl Cm Cn Co Cp Cq Cr Cs Ct Cu Cv Cw Cx Cy Cz CA CB CC CD CE CF CG CH CI CJ CK CL CM CN CO CP CQ CR CS CT CU CV CW CX CY CZ D0 D1 D2 D3 D4 D5 D6 D7 D8 D9 Da A1 A2 A3 A4 A5 A6 A7 A8 A9 Aa Ac Ad Ae Af Ag Ah Ai Aj Ak Al An Ao Ap Aq Ar As At Au Av Aw Ay Az AA AB AC AD AE AF AG AH AJ AK AL AM AN AO AP AQ AR AS AU AV AW AX AY AZ B0 B1 B2 B3 B5 B6 B7 B8 B9 Ba Bb Bc Bd Be Bg Bh Bi Bj Bk Bl Bm Bn Bo Bp Br Bs Bt Bu Bv Bw Bx By Bz BA BC BD BE BF BG BH BJ BK BL BN BO BP BQ BR BS BT BU BV Db Dc Dd De Df Dg Dh Di Dj Dk Dl x0 x1 x2 x3 x4 x6 x7 x8 x9 m0 m1 m2 m3 m4 m5 m6:Value} {gt g n c k base:Nat} {q:Int} {rs:List (List Value)} {w:World} (hne:gt≠g) (hk:rs[k]?=some [m0,m1,m2,m3,m4,m5,m6]) (hlt:(k:Int)<(n:Int)) (hgt:Row w gt 28 [x0,x1,x2,x3,x4,.slice (some ⟨g,0,none⟩) n c,x6,x7,x8,x9]) (hrow:Qs 54 7 w base (.slice (some ⟨g,0,none⟩) n c) rs) (Q:Exit→Act→World→Prop)
  (hQ:Hid (∀ (σ:Nat→Value) (w':World),JL g w w'→QcC base g n c k rs m1 m2 m4 m5 m6 w' (.int .i64 3) (.int .i64 q)→Q .normal ⟨#[y0,y1,.int .i64 (k:Int),y3,y4,.int .i64 q,y6,y7,y8,y9,A0,Ab,Am,Ax,AI,AT,B4,Bf,Bq,BB,BI,BM,BW,BX,BY,.pointer (some ⟨gt,0,none⟩),BZ,C0,C1,C2,C3,C4,C5,C6,C7,C8,C9,Ca,Cb,Cc,Cd,Ce,Cf,Cg,Ch,Ci,Cj,Ck,Cl,Cm,Cn,Co,Cp,Cq,Cr,Cs,Ct,Cu,Cv,Cw,Cx,Cy,Cz,CA,CB,CC,CD,CE,CF,CG,CH,CI,CJ,CK,CL,CM,CN,CO,CP,CQ,CR,CS,CT,CU,CV,CW,CX,CY,CZ,D0,D1,D2,D3,D4,D5,D6,D7,D8,D9,Da,A1,A2,A3,A4,A5,A6,A7,A8,A9,Aa,Ac,Ad,Ae,Af,Ag,Ah,Ai,Aj,Ak,Al,An,Ao,Ap,Aq,Ar,As,At,Au,Av,Aw,Ay,Az,AA,AB,AC,AD,AE,AF,AG,AH,AJ,AK,AL,AM,AN,AO,AP,AQ,AR,AS,AU,AV,AW,AX,AY,AZ,B0,B1,B2,B3,B5,B6,B7,B8,B9,Ba,Bb,Bc,Bd,Be,Bg,Bh,Bi,Bj,Bk,Bl,Bm,Bn,Bo,Bp,Br,Bs,Bt,Bu,Bv,Bw,Bx,By,Bz,BA,BC,BD,BE,BF,BG,BH,σ 0,σ 1,σ 2,σ 3,σ 4,σ 5,σ 6,σ 7,σ 8,σ 10,σ 11,BJ,BK,BL,BN,BO,BP,BQ,BR,BS,BT,BU,BV],[]⟩ w')) :
  Code.wp Tryz.prog (.region 39 ((Tryz.f6.body.bind (Q3 39)).getD #[]) true) Q ⟨#[y0,y1,.int .i64 (k:Int),y3,y4,.int .i64 q,y6,y7,y8,y9,A0,Ab,Am,Ax,AI,AT,B4,Bf,Bq,BB,BI,BM,BW,BX,BY,.pointer (some ⟨gt,0,none⟩),BZ,C0,C1,C2,C3,C4,C5,C6,C7,C8,C9,Ca,Cb,Cc,Cd,Ce,Cf,Cg,Ch,Ci,Cj,Ck,Cl,Cm,Cn,Co,Cp,Cq,Cr,Cs,Ct,Cu,Cv,Cw,Cx,Cy,Cz,CA,CB,CC,CD,CE,CF,CG,CH,CI,CJ,CK,CL,CM,CN,CO,CP,CQ,CR,CS,CT,CU,CV,CW,CX,CY,CZ,D0,D1,D2,D3,D4,D5,D6,D7,D8,D9,Da,A1,A2,A3,A4,A5,A6,A7,A8,A9,Aa,Ac,Ad,Ae,Af,Ag,Ah,Ai,Aj,Ak,Al,An,Ao,Ap,Aq,Ar,As,At,Au,Av,Aw,Ay,Az,AA,AB,AC,AD,AE,AF,AG,AH,AJ,AK,AL,AM,AN,AO,AP,AQ,AR,AS,AU,AV,AW,AX,AY,AZ,B0,B1,B2,B3,B5,B6,B7,B8,B9,Ba,Bb,Bc,Bd,Be,Bg,Bh,Bi,Bj,Bk,Bl,Bm,Bn,Bo,Bp,Br,Bs,Bt,Bu,Bv,Bw,Bx,By,Bz,BA,BC,BD,BE,BF,BG,BH,Db,Dc,Dd,De,Df,Dg,Dh,Di,Dj,Dk,Dl,BJ,BK,BL,BN,BO,BP,BQ,BR,BS,BT,BU,BV],[]⟩ w:=by
 have hkl:=(List.getElem?_eq_some_iff.1 hk).1
 have e0:rs=rs.set k [m0,m1,m2,m3,m4,m5,m6]:=by
  apply List.ext_getElem?
  intro j
  by_cases h:k=j
  ·subst h;rw [hk,List.getElem?_set_self hkl]
  ·rw [List.getElem?_set_ne h]
 have P0:∀ W x y,QcC base g n c k rs m1 m2 m4 m5 m6 W (x) (y)→QcC base g n c k rs m1 m2 m4 m5 m6 (W.setCell ⟨g,k*7,none⟩ (.int .i64 3)) (.int .i64 3) (y):=fun W x y h=>by
  have:=Qs.putCell (show Qs _ _ _ _ _ _ from h) (i:=k) (j:=0) (x:=.int .i64 3) (List.getElem?_set_self hkl) (by decide) rfl
  rw [List.set_set] at this
  exact this
 have P3:∀ W x y,QcC base g n c k rs m1 m2 m4 m5 m6 W (x) (y)→QcC base g n c k rs m1 m2 m4 m5 m6 (W.setCell ⟨g,k*7+3,none⟩ (.int .i64 q)) (x) (.int .i64 q):=fun W x y h=>by
  have:=Qs.putCell (show Qs _ _ _ _ _ _ from h) (i:=k) (j:=3) (x:=.int .i64 q) (List.getElem?_set_self hkl) (by decide) rfl
  rw [List.set_set] at this
  exact this
 have OC:∀ W j v,JL g w W→JL g w (W.setCell ⟨g,j,none⟩ v):=fun W j v h=>h.cell j v
 have E0:=hid e0
 have P0:=hid P0
 have P3:=hid P3
 have OC:=hid OC
 clear e0
 conv=>arg 2;arg 2;whnf
 conv=>arg 4;dsimp only
 refine Qam (by kernel_rfl) (fun σ=>#[y0,y1,.int .i64 (k:Int),y3,y4,.int .i64 q,y6,y7,y8,y9,A0,Ab,Am,Ax,AI,AT,B4,Bf,Bq,BB,BI,BM,BW,BX,BY,.pointer (some ⟨gt,0,none⟩),BZ,C0,C1,C2,C3,C4,C5,C6,C7,C8,C9,Ca,Cb,Cc,Cd,Ce,Cf,Cg,Ch,Ci,Cj,Ck,Cl,Cm,Cn,Co,Cp,Cq,Cr,Cs,Ct,Cu,Cv,Cw,Cx,Cy,Cz,CA,CB,CC,CD,CE,CF,CG,CH,CI,CJ,CK,CL,CM,CN,CO,CP,CQ,CR,CS,CT,CU,CV,CW,CX,CY,CZ,D0,D1,D2,D3,D4,D5,D6,D7,D8,D9,Da,A1,A2,A3,A4,A5,A6,A7,A8,A9,Aa,Ac,Ad,Ae,Af,Ag,Ah,Ai,Aj,Ak,Al,An,Ao,Ap,Aq,Ar,As,At,Au,Av,Aw,Ay,Az,AA,AB,AC,AD,AE,AF,AG,AH,AJ,AK,AL,AM,AN,AO,AP,AQ,AR,AS,AU,AV,AW,AX,AY,AZ,B0,B1,B2,B3,B5,B6,B7,B8,B9,Ba,Bb,Bc,Bd,Be,Bg,Bh,Bi,Bj,Bk,Bl,Bm,Bn,Bo,Bp,Br,Bs,Bt,Bu,Bv,Bw,Bx,By,Bz,BA,BC,BD,BE,BF,BG,BH,σ 0,σ 1,σ 2,σ 3,σ 4,σ 5,σ 6,σ 7,σ 8,σ 10,σ 11,BJ,BK,BL,BN,BO,BP,BQ,BR,BS,BT,BU,BV]) (fun i=>([Db,Dc,Dd,De,Df,Dg,Dh,Di,Dj,undef,Dk,Dl,undef]:List Value).getD i undef) rfl (fun i X W=>match i with
  | 0=>X=.pointer (some ⟨gt,5,none⟩)
  | 1=>X=(.slice (some ⟨g,0,none⟩) n c)
  | 2=>X=.int .i64 (k:Int)
  | 3=>X=.pointer (some ⟨gt,5,none⟩)
  | 4=>X=(.slice (some ⟨g,0,none⟩) n c)
  | 5=>X=.int .i64 (k:Int)
  | 6=>X=.int .i64 q
  | 7=>X=.pointer (some ⟨g,k*7,none⟩)
  | 8=>X=.pointer (some ⟨g,k*7,none⟩)
  | 9=>Qi8 base g n c k rs m1 m2 m4 m5 m6 W
  | 10=>X=.pointer (some ⟨g,k*7,none⟩)
  | 11=>X=.pointer (some ⟨g,k*7+3,none⟩)
  | 12=>QcC base g n c k rs m1 m2 m4 m5 m6 W (.int .i64 3) (.int .i64 q)
  | _=>True) (fun W W'=>(Qi8 base g n c k rs m1 m2 m4 m5 m6 W→Qi8 base g n c k rs m1 m2 m4 m5 m6 W')∧(QcC base g n c k rs m1 m2 m4 m5 m6 W (.int .i64 3) (.int .i64 q)→QcC base g n c k rs m1 m2 m4 m5 m6 W' (.int .i64 3) (.int .i64 q))) (fun W=>JL g w W∧∃ x y,QcC base g n c k rs m1 m2 m4 m5 m6 W (x) (y)) ⟨⟨(Below.refl _ _).drew,fun _ _=>rfl,rfl⟩,m0,m3,by unfold QcC;rw [← E0.out];exact hrow⟩ ?_ (by kernel_rfl) ?_ ?_
 ·intro i X W W' HR H
  iterate 13 (obtain _ | i:=i;first | exact H | exact HR.1 H | exact HR.2 H)
  exact H
 ·refine ⟨?_,?_,?_,?_,?_,?_,?_,?_,?_,?_,?_,?_,?_,trivial⟩
  all_goals (intro σ W HJ hdep;simp [Region.binds] at hdep;have HJ:=hid HJ;have b5:=(HJ.out.1.keep hgt hne).k10.2.2.2.2.2.1)
  ·refine Qa rfl rfl ?_;go_simp;exact ⟨_,(by first | rfl | simp [Qe, *]),⟨id,id⟩,HJ.out,rfl⟩
  ·refine Qa rfl rfl ?_;go_simp;exact ⟨_,(by first | rfl | simp [Qe, *]),⟨id,id⟩,HJ.out,rfl⟩
  ·refine Qa rfl rfl ?_;go_simp;exact ⟨_,(by first | rfl | simp [Qe, *]),⟨id,id⟩,HJ.out,rfl⟩
  ·refine Qa rfl rfl ?_;go_simp;exact ⟨_,(by first | rfl | simp [Qe, *]),⟨id,id⟩,HJ.out,rfl⟩
  ·refine Qa rfl rfl ?_;go_simp;exact ⟨_,(by first | rfl | simp [Qe, *]),⟨id,id⟩,HJ.out,rfl⟩
  ·refine Qa rfl rfl ?_;go_simp;exact ⟨_,(by first | rfl | simp [Qe, *]),⟨id,id⟩,HJ.out,rfl⟩
  ·refine Qa rfl rfl ?_;go_simp;exact ⟨_,(by first | rfl | simp [Qe, *]),⟨id,id⟩,HJ.out,rfl⟩
  ·refine Qa rfl rfl ?_;go_simp;exact ⟨_,(by first | rfl | simp [Qe, *]),⟨id,id⟩,HJ.out,rfl⟩
  ·refine Qa rfl rfl ?_;go_simp;exact ⟨_,(by first | rfl | simp [Qe, *]),⟨id,id⟩,HJ.out,rfl⟩
  ·obtain ⟨x,y,hT⟩:=HJ.out.2
   obtain ⟨g',e',-,-,hcc,hfz⟩:=Qs.at (show Qs _ _ _ _ _ _ from hT) (i:=k) (List.getElem?_set_self hkl)
   obtain rfl:g=g':=by simpa using e'
   have f0:=hcc 0 _ rfl
   have z0:=hfz (k*7)
   simp only [Nat.add_zero] at f0
   have HT:=hid hT
   clear hcc hfz hT e'
   refine Qa rfl rfl ?_
   go_simp
   exact ⟨undef,(by first | rfl | simp [Qe, *]),⟨fun ⟨y',h⟩=>⟨y',P0.out _ _ _ h⟩,fun h=>P0.out _ _ _ h⟩,⟨OC.out _ _ _ HJ.out.1,_,_,P0.out _ _ _ HT.out⟩,⟨_,P0.out _ _ _ HT.out⟩⟩
  ·refine Qa rfl rfl ?_;go_simp;exact ⟨_,(by first | rfl | simp [Qe, *]),⟨id,id⟩,HJ.out,rfl⟩
  ·refine Qa rfl rfl ?_;go_simp;exact ⟨_,(by first | rfl | simp [Qe, *]),⟨id,id⟩,HJ.out,rfl⟩
  ·obtain ⟨y,hT⟩:Qi8 base g n c k rs m1 m2 m4 m5 m6 W:=by first | exact hdep.2.2.1 | exact hdep.2.2 | exact hdep.2 | exact hdep.1 | exact hdep.2.1
   obtain ⟨g',e',-,-,hcc,hfz⟩:=Qs.at (show Qs _ _ _ _ _ _ from hT) (i:=k) (List.getElem?_set_self hkl)
   obtain rfl:g=g':=by simpa using e'
   have f3:=hcc 3 _ rfl
   have z3:=hfz (k*7+3)
   have HT:=hid hT
   clear hcc hfz hT e'
   refine Qa rfl rfl ?_
   go_simp
   exact ⟨undef,(by first | rfl | simp [Qe, *]),⟨fun ⟨y',h⟩=>⟨_,P3.out _ _ _ h⟩,fun h=>P3.out _ _ _ h⟩,⟨OC.out _ _ _ HJ.out.1,_,_,P3.out _ _ _ HT.out⟩,P3.out _ _ _ HT.out⟩
 ·intro σ w' hj hg
  exact hQ.out σ w' hj.1 (hg 12 (by decide))
end Go.Proofs.YtbgdpfeobklnhaaGreatDoor
