/-
  Whether the other end of a channel is shown.
-/
import Derived.Test.YtbgdpfeobklnhaaGreatDoorcvChMath
import Derived.Test.YtbgdpfeobklnhaaGreatDoorcvStVal
import Derived.Test.YtbgdpfeobklnhaaGreatDoorcvClRShown
import Derived.Test.YtbgdpfeobklnhaaGreatDoorcvFrKit
import Derived.Test.YtbgdpfeobklnhaaGreatDoorcvRegions
namespace Go.Proofs.YtbgdpfeobklnhaaGreatDoor
set_option maxRecDepth 1000000
set_option maxHeartbeats 8000000
open Go.RowKit
theorem QB.client {w:World} {N k n cap:Nat} {oa:Option Addr} {l:List Cl} {x:Cl} (h:QB ClR 4 w N (.slice oa n cap) l) (hn:n=l.length) (hx:l[k]?=some x):∃ b f ka ma,oa=some ⟨b,f,none⟩∧b<N∧(w.cell? ⟨b,f+k*4,none⟩=some (.string x.chain)∧w.cell? ⟨b,f+k*4+1,none⟩=some (.int .i64 x.trust)∧w.cell? ⟨b,f+k*4+2,none⟩=some (.bool x.frozen)∧w.cell? ⟨b,f+k*4+3,none⟩=some (.slice ka x.known.length ma))∧ClV w N (.agg #[.string x.chain,.int .i64 x.trust,.bool x.frozen,.slice ka x.known.length ma]) x:=by
 have:=(List.getElem?_eq_some_iff.1 hx).1
 obtain ⟨b,f,rfl,gx⟩:=h.spot (by omega)
 obtain ⟨hb,r,hr,cx⟩:=gx k x hx
 obtain ⟨kc,rfl,hkc⟩:=hr
 obtain ⟨ka,ma,rfl,-⟩:=hkc.shape
 exact ⟨b,f,ka,ma,rfl,hb,⟨cx 0 _ rfl,cx 1 _ rfl,cx 2 _ rfl,cx 3 _ rfl⟩,_,rfl,hkc⟩
theorem Yv (q:Int) (hq:0≤q∧q≤1000000000000):(Zd Yy [q.toNat]).length≤140737488351232:=by
 have h:=Zr 12 q.toNat (by omega)
 simp [Zd,Yy]
 omega
theorem Yw (o:Ch) (ho:(1≤o.state∧o.state≤4)∧(0≤o.conn∧o.conn≤1000000000000)∧(-1≤o.ochan∧o.ochan≤1000000000000)):(JC o).length≤140737488351232:=by
 have:=(Qcx [o.state,if o.ordered=true then 1 else 0,o.conn,o.ochan+1] (by simp) (fun n hn=>by simp at hn;rcases hn with h | h | h | h <;> first | omega | (subst h;split <;> decide))).2
 unfold JC
 omega
theorem QkB {y0 y1 y2 y3 y4 y7 y8 A0 A1 A2 A3 A4 A5 A6 A7 A8 A9 Aa Ab Ac Ad Ae Af Ag Ah Ai Aj Ak Al Am An Ao Ap Aq Ar As At Au Av:Value} {x0 x1 x2 x4 x5 x6 x7 x8 x9 a0 a1 a2 a4 a5 a6 d0 d2 d3 t0 t1 t2 t3 t4 t5 t6 u0 u1 u2 u3 u4 u5 u6 u7 u8 u9 Aw Ax Ay Az AA AB AC AD l0 l1 l2 l3:Value} {gs go gc gt gh b f k n c:Nat} {q z:Int} {key val:List (BitVec 8)} {w:World} (hgs:Hid (Row w gs 28 [x0,x1,x2,.slice (some ⟨b,f,none⟩) n c,x4,x5,x6,x7,x8,x9])) (hgo:Hid (Row w go 54 [a0,a1,a2,.int .i64 q,a4,a5,a6])) (hgc:Hid (Row w gc 60 [d0,.int .i64 (k:Int),d2,d3])) (hgt:Hid (Row w gt 54 [t0,t1,t2,t3,t4,t5,t6])) (hgh:Hid (Row w gh 36 [u0,u1,u2,u3,u4,u5,u6,u7,u8,u9,Aw,Ax,Ay,Az,AA,AB,AC,AD])) (hlb:(k:Int)<(n:Int)) (hbb:b<w.heap.size) (hcb:Hid (w.cell? ⟨b,f+k*4,none⟩=some (l0)∧w.cell? ⟨b,f+k*4+1,none⟩=some (l1)∧w.cell? ⟨b,f+k*4+2,none⟩=some (l2)∧w.cell? ⟨b,f+k*4+3,none⟩=some (l3))) (hck:∀ W,Below w.heap.size w W→Calls Tryz.prog 68 #[.int .i64 q] W fun e w'=>∃ v,e=.returned v∧Bytes w' w'.heap.size v key∧Below W.heap.size W w') (hcv:∀ W,Below w.heap.size w W→Calls Tryz.prog 69 #[.agg #[t0,t1,t2,t3,t4,t5,t6]] W fun e w'=>∃ v,e=.returned v∧Bytes w' w'.heap.size v val∧Below W.heap.size W w') (hcm:∀ W {kv vv:Value},Below w.heap.size w W→Bytes W W.heap.size kv key→Bytes W W.heap.size vv val→Calls Tryz.prog 67 #[.agg #[l0,l1,l2,l3],x2,u0,kv,vv,.agg #[u1,u2,u3,u4,u5]] W fun e w'=>e=.returned (.int .i64 z)∧Below W.heap.size W w') (Q:Exit→Act→World→Prop)
  (hQ:Hid (∀ (σ:Nat→Value) (w':World),Below w.heap.size w w'→σ 18=.int .i64 z→Q .normal ⟨#[y0,y1,y2,y3,y4,.pointer (some ⟨gs,0,none⟩),.pointer (some ⟨go,0,none⟩),y7,y8,.pointer (some ⟨gh,0,none⟩),σ 18,.pointer (some ⟨gc,0,none⟩),.pointer (some ⟨gt,0,none⟩),A0,A1,A2,A3,A4,A5,A6,A7,A8,A9,Aa,Ab,Ac,σ 0,σ 1,σ 2,σ 3,σ 4,σ 5,σ 6,σ 7,σ 8,σ 9,σ 10,σ 11,σ 12,σ 13,σ 14,σ 15,σ 16,σ 17],[]⟩ w')) :
  Code.wp Tryz.prog (.region 3 ((Tryz.f34.body.bind (Q3 3)).getD #[]) true) Q ⟨#[y0,y1,y2,y3,y4,.pointer (some ⟨gs,0,none⟩),.pointer (some ⟨go,0,none⟩),y7,y8,.pointer (some ⟨gh,0,none⟩),Ad,.pointer (some ⟨gc,0,none⟩),.pointer (some ⟨gt,0,none⟩),A0,A1,A2,A3,A4,A5,A6,A7,A8,A9,Aa,Ab,Ac,Ae,Af,Ag,Ah,Ai,Aj,Ak,Al,Am,An,Ao,Ap,Aq,Ar,As,At,Au,Av],[]⟩ w:=by
 conv=>arg 2;arg 2;whnf
 conv=>arg 4;dsimp only
 refine QT (by kernel_rfl) (fun σ=>#[y0,y1,y2,y3,y4,.pointer (some ⟨gs,0,none⟩),.pointer (some ⟨go,0,none⟩),y7,y8,.pointer (some ⟨gh,0,none⟩),σ 18,.pointer (some ⟨gc,0,none⟩),.pointer (some ⟨gt,0,none⟩),A0,A1,A2,A3,A4,A5,A6,A7,A8,A9,Aa,Ab,Ac,σ 0,σ 1,σ 2,σ 3,σ 4,σ 5,σ 6,σ 7,σ 8,σ 9,σ 10,σ 11,σ 12,σ 13,σ 14,σ 15,σ 16,σ 17]) (fun i=>([Ae,Af,Ag,Ah,Ai,Aj,Ak,Al,Am,An,Ao,Ap,Aq,Ar,As,At,Au,Av,Ad]:List Value).getD i undef) rfl (fun i X W=>match i with
  | 0=>X=.pointer (some ⟨gs,3,none⟩)
  | 1=>X=.slice (some ⟨b,f,none⟩) n c
  | 2=>X=.pointer (some ⟨gc,1,none⟩)
  | 3=>X=.int .i64 (k:Int)
  | 4=>X=.pointer (some ⟨b,f+k*4,none⟩)
  | 5=>X=.agg #[l0,l1,l2,l3]
  | 6=>X=.pointer (some ⟨gs,2,none⟩)
  | 7=>X=x2
  | 8=>X=.pointer (some ⟨gh,0,none⟩)
  | 9=>X=u0
  | 10=>X=.pointer (some ⟨go,3,none⟩)
  | 11=>X=.int .i64 q
  | 12=>Bytes W W.heap.size X key
  | 13=>X=.agg #[t0,t1,t2,t3,t4,t5,t6]
  | 14=>Bytes W W.heap.size X val
  | 15=>X=.pointer (some ⟨gh,1,none⟩)
  | 16=>X=.agg #[u1,u2,u3,u4,u5]
  | 17=>X=.int .i64 z
  | 18=>X=.int .i64 z
  | _=>True) ?_ (by kernel_rfl) ?_ ?_
 ·intro i X W W' HB H
  iterate 19 (obtain _ | i:=i;first | exact H | exact (H.below HB).mono HB.size)
  exact H
 ·refine ⟨?_,?_,?_,?_,?_,?_,?_,?_,?_,?_,?_,?_,?_,?_,?_,?_,?_,?_,?_,trivial⟩
  all_goals (intro σ W HJ hdep;simp [Region.binds] at hdep;have HJ:=hid HJ;obtain ⟨gsk0,gsk1,gsk2,gsk3,gsk4,gsk5,gsk6,gsk7,gsk8,gsk9⟩:=(rg hgs HJ).k10;obtain ⟨gok0,gok1,gok2,gok3,gok4,gok5,gok6⟩:=(rg hgo HJ).k7;obtain ⟨gck0,gck1,gck2,gck3⟩:=(rg hgc HJ).k4;obtain ⟨gtk0,gtk1,gtk2,gtk3,gtk4,gtk5,gtk6⟩:=(rg hgt HJ).k7;obtain ⟨ghk0,ghk1,ghk2,ghk3,ghk4,ghk5,ghk6,ghk7,ghk8,ghk9,ghk10,ghk11,ghk12,ghk13,ghk14,ghk15,ghk16,ghk17⟩:=(rg hgh HJ).k18;obtain ⟨bk0,bk1,bk2,bk3⟩:=hcb.out;replace bk0:=(HJ.out.cell (by exact hbb)).trans bk0;replace bk1:=(HJ.out.cell (by exact hbb)).trans bk1;replace bk2:=(HJ.out.cell (by exact hbb)).trans bk2;replace bk3:=(HJ.out.cell (by exact hbb)).trans bk3)
  ·refine Qa rfl rfl ?_;go_simp;exact Ql.mk0 _ (by first | rfl | simp [Qe, *]) HJ.out rfl
  ·refine Qa rfl rfl ?_;go_simp;exact Ql.mk0 _ (by first | rfl | simp [Qe, *]) HJ.out rfl
  ·refine Qa rfl rfl ?_;go_simp;exact Ql.mk0 _ (by first | rfl | simp [Qe, *]) HJ.out rfl
  ·refine Qa rfl rfl ?_;go_simp;exact Ql.mk0 _ (by first | rfl | simp [Qe, *]) HJ.out rfl
  ·refine Qa rfl rfl ?_;go_simp;exact Ql.mk0 _ (by first | rfl | simp [Qe, *]) HJ.out rfl
  ·refine Qa rfl rfl ?_;go_simp;exact Ql.mk0 _ (by first | rfl | simp [Qe, *]) HJ.out rfl
  ·refine Qa rfl rfl ?_;go_simp;exact Ql.mk0 _ (by first | rfl | simp [Qe, *]) HJ.out rfl
  ·refine Qa rfl rfl ?_;go_simp;exact Ql.mk0 _ (by first | rfl | simp [Qe, *]) HJ.out rfl
  ·refine Qa rfl rfl ?_;go_simp;exact Ql.mk0 _ (by first | rfl | simp [Qe, *]) HJ.out rfl
  ·refine Qa rfl rfl ?_;go_simp;exact Ql.mk0 _ (by first | rfl | simp [Qe, *]) HJ.out rfl
  ·refine Qa rfl rfl ?_;go_simp;exact Ql.mk0 _ (by first | rfl | simp [Qe, *]) HJ.out rfl
  ·refine Qa rfl rfl ?_;go_simp;exact Ql.mk0 _ (by first | rfl | simp [Qe, *]) HJ.out rfl
  ·have HC:=hid (hck W HJ.out);refine Qa rfl rfl ?_;go_simp;refine HC.out.mono ?_;rintro e w2 ⟨v,rfl,hv,hb⟩;exact Ql.mk v (by first | rfl | simp [Qe, *]) hb HJ.out hv
  ·refine Qa rfl rfl ?_;go_simp;exact Ql.mk0 _ (by first | rfl | simp [Qe, *]) HJ.out rfl
  ·have HC:=hid (hcv W HJ.out);refine Qa rfl rfl ?_;go_simp;refine HC.out.mono ?_;rintro e w2 ⟨v,rfl,hv,hb⟩;exact Ql.mk v (by first | rfl | simp [Qe, *]) hb HJ.out hv
  ·refine Qa rfl rfl ?_;go_simp;exact Ql.mk0 _ (by first | rfl | simp [Qe, *]) HJ.out rfl
  ·refine Qa rfl rfl ?_;go_simp;exact Ql.mk0 _ (by first | rfl | simp [Qe, *]) HJ.out rfl
  ·obtain ⟨d5,d7,d9,d12,d14,d16⟩:=hdep;have HC:=hid (hcm W HJ.out d12 d14);clear d12 d14;refine Qa rfl rfl ?_;go_simp;refine HC.out.mono ?_;rintro e w2 ⟨rfl,hb⟩;exact Ql.mk _ (by first | rfl | simp [Qe, *]) hb HJ.out rfl
  ·refine Qa rfl rfl ?_;go_simp;exact Ql.mk0 _ (by first | rfl | simp [Qe, *]) HJ.out rfl
 ·intro σ w' hb hg
  exact hQ.out σ w' hb (hg 18 (by decide))
theorem QcL (s:St) (v hv2:Value) (N:Nat) (w:World) (st Qcr z:Int) (o:Ch) (h:Sh) (hv:StV w N v s) (hh:ShV w N hv2 h) (hN:N≤w.heap.size) (hfit:s.fits) (hhf:h.fits) (htab:Qy w) (hpow:YB w) (hw:Qk s=0) (hov:QI s o.conn=0) (hq:0≤o.ochan∧o.ochan≤1000000000000) (hst:1≤st∧st≤4) (hbk : -1≤Qcr∧Qcr≤1000000000000) (hz:Ys s o st Qcr h z) :
  Calls Tryz.prog 34 #[v,.agg #[.int .i64 o.state,.bool o.ordered,.int .i64 o.conn,.int .i64 o.ochan,.int .i64 o.send,.int .i64 o.recv,.int .i64 o.ack],.int .i64 st,.int .i64 Qcr,hv2] w fun e w'=>e=.returned (.int .i64 (z))∧Below w.heap.size w w':=by
 obtain ⟨hc,-,hoc,hlv⟩:=Y0 hov
 have hz':=hz
 unfold Ys JB at hz'
 clear hz hov
 obtain ⟨a0,a1,a2,a3,a4,a5,a6⟩:=o
 simp only at hc hoc hlv hz' hq ⊢
 obtain ⟨k,rfl⟩:∃ k:Nat,a2=(k:Int):=⟨a2.toNat,by omega⟩
 obtain ⟨x,hx⟩:∃ x,s.conns[k]?=some x:=⟨_,List.getElem?_eq_getElem (by omega)⟩
 have hxo:=Qdp ((YD hw).conns x (List.mem_of_getElem? hx))
 rw [ZY hx] at hoc hlv hz'
 have hcl:=Qfc hlv
 obtain ⟨x0,x1,x2,x3⟩:=x
 simp only at hoc hz' hcl hxo
 obtain ⟨j,rfl⟩:∃ j:Nat,x1=(j:Int):=⟨x1.toNat,by omega⟩
 obtain ⟨y,hy⟩:∃ y,s.clients[j]?=some y:=⟨_,List.getElem?_eq_getElem (by omega)⟩
 rw [QbW hy] at hz'
 have hob:(1≤st∧st≤4)∧(0≤x3∧x3≤1000000000000)∧(-1≤Qcr∧Qcr≤1000000000000):=⟨hst,by omega,hbk⟩
 have HCK:=hid (fun W (hW:Below w.heap.size w W)=>QeP a3 hq W (hpow.below hW))
 have HCV:=hid (fun W=>QfS ⟨st,a1,x3,Qcr,0,0,0⟩ hob W)
 have hkl:=Yv a3 hq
 have hvl:=Yw ⟨st,a1,x3,Qcr,0,0,0⟩ hob
 obtain ⟨o1,c1,o2,c2,o3,c3,o4,c4,o5,c5,o6,c6,o7,c7,rfl,hm⟩:=hv.open
 obtain ⟨q1,e1,q2,e2,q3,e3,r1,s1,r2,s2,r3,s3,r4,s4,r5,s5,r6,s6,rfl,hpv⟩:=hh.open
 have HM:=hid hm
 have HX:=hid hx
 have HY:=hid hy
 have HCM:=hid (fun W (hW:Below w.heap.size w W) cv kv vv (h3:ClV W N cv y) h4 h5=>QaT.z Qjs y s.time h.height (Zd Yy [a3.toNat]) (JC ⟨st,a1,x3,Qcr,0,0,0⟩) h.prf cv kv vv _ W.heap.size W (htab.past hW) (Nat.le_refl _) (h3.mono (Nat.le_trans hN hW.size)) h4 h5 ((hpv.below (hW.mono hN)).mono (Nat.le_trans hN hW.size)) (hfit.2.1.2 y (List.mem_of_getElem? hy)) hkl hvl hhf.1 hz')
 have hlt:(k:Int)<(s.conns.length:Int):=by omega
 have hlj:(j:Int)<(s.clients.length:Int):=by omega
 clear hv hm hh hpv hfit hhf htab hpow hw hz' hx hy hob hlv hkl hvl hxo hcl hst hbk hoc hc
 go_enter Tryz.func34,Tryz.ntmps34
 go_upto_region 1 with fail
 refine ZD ?_
 intro w0 F hs
 obtain ⟨b,f,rfl,hb,y0,y1,y2,y3⟩:=(HM.out.below (F.b.mono hN)).conns.conn rfl HX.out
 have k4:=F.r0.k10.2.2.2.2.1
 have m2:=F.r1.k7.2.2.1
 go_upto_region 2 with fail
 refine F.box ?_
 intro w1 F1 hs1 hb1
 clear y0 y1 y2 y3 k4 m2 hb1 hs hs1 F
 have m1:=F1.r1.k7.2.1
 have n3:=F1.r3.k4.2.2.2
 go_upto_region 3 with fail
 refine F1.box ?_
 intro w2 F2 hs2 hb2
 clear m1 n3 hb2 hs2 F1
 obtain ⟨b',f',ka,ma,rfl,hb',hcc,hcv⟩:=(HM.out.below (F2.b.mono hN)).clients.client rfl HY.out
 have HCL:=hid hcv
 have hbl:b'<w2.heap.size:=by have:=F2.b.size;omega
 refine QkB (hid F2.r0) (hid F2.r1) (hid F2.r3) (hid F2.r4) (hid F2.r2) hlj hbl (hid hcc) (fun W hW=>(HCK.out W (F2.go hW).b).mono ?_) (fun W hW=>(HCV.out W).mono ?_) (fun W kv vv hW h4 h5=>HCM.out W (F2.go hW).b _ kv vv (HCL.out.below (hW.mono (Nat.le_trans hN F2.b.size))) h4 h5) _ (hid ?_)
 ·rintro e w' ⟨u,rfl,ho,hb⟩
  exact ⟨u,rfl,ho.bytes,hb⟩
 ·rintro e w' ⟨u,rfl,ho,hb⟩
  exact ⟨u,rfl,ho.bytes,hb⟩
 intro σ w3 hb3 ea
 have F3:=F2.go hb3
 rw [ea]
 clear ea hb3 hcc hcv
 go_wp2
 go_ret
 exact ⟨rfl,F3.b⟩
end Go.Proofs.YtbgdpfeobklnhaaGreatDoor
