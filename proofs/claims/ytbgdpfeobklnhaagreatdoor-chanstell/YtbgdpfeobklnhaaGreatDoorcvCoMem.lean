/-
  Whether something is shown of the other side: package conn's member, and the document's There.
-/
import Derived.Test.YtbgdpfeobklnhaaGreatDoorcvCoLive
import Derived.Test.YtbgdpfeobklnhaaGreatDoorcvStVal
import Derived.Test.YtbgdpfeobklnhaaGreatDoorcvClRShown
namespace Go.Proofs.YtbgdpfeobklnhaaGreatDoor
set_option maxRecDepth 1000000
set_option maxHeartbeats 8000000
open Go.RowKit
theorem Qkp {y0 y4 y6 y7 y8 A0 A1 A2 A3 A4 A5 A6 A7 A8 A9 Aa Ab Ac Ad Ae:Value} {gs gh N:Nat} (s:St) (x:Cl) (k n b f c1 ma:Nat) (ka o2 o3 o4 o5 o6 o7:Option Addr) (c2 c3 c4 c5 c6 c7:Nat) (h:Sh) (z:Int) (key val:List (BitVec 8)) (kv vv:Value) (q1 q2 q3 r1 r2 r3 r4 r5 r6:Option Addr) (e1 e2 e3 s1 s2 s3 s4 s5 s6:Nat) {w:World} (hN:N≤w.heap.size) (hrs:Hid (Row w gs 28 [.string s.name,.int .i64 s.height,.int .i64 s.time,.slice (some ⟨b,f,none⟩) n c1,.slice o2 s.conns.length c2,.slice o3 s.chans.length c3,.slice o4 s.sent.length c4,.slice o5 s.got.length c5,.slice o6 s.acks.length c6,.slice o7 s.purses.length c7])) (_hlt:(k:Int)<(n:Int)) (hb1:b<w.heap.size) (hca:Hid (w.cell? ⟨b,f+k*4,none⟩=some (.string x.chain)∧w.cell? ⟨b,f+k*4+1,none⟩=some (.int .i64 x.trust)∧w.cell? ⟨b,f+k*4+2,none⟩=some (.bool x.frozen)∧w.cell? ⟨b,f+k*4+3,none⟩=some (.slice ka x.known.length ma))) (hcv:Hid (ClV w N (.agg #[.string x.chain,.int .i64 x.trust,.bool x.frozen,.slice ka x.known.length ma]) x)) (hrh:Hid (Row w gh 36 [.int .i64 h.height,.int .i64 h.prf.index,.int .i64 h.prf.size,.slice q1 h.prf.key.length e1,.slice q2 h.prf.val.length e2,.slice q3 h.prf.path.length e3,.bool h.gap.hasL,.bool h.gap.hasR,.int .i64 h.gap.left.index,.int .i64 h.gap.left.size,.slice r1 h.gap.left.key.length s1,.slice r2 h.gap.left.val.length s2,.slice r3 h.gap.left.path.length s3,.int .i64 h.gap.right.index,.int .i64 h.gap.right.size,.slice r4 h.gap.right.key.length s4,.slice r5 h.gap.right.val.length s5,.slice r6 h.gap.right.path.length s6])) (hpv:Hid (Qa3 w N (.agg #[.int .i64 h.prf.index,.int .i64 h.prf.size,.slice q1 h.prf.key.length e1,.slice q2 h.prf.val.length e2,.slice q3 h.prf.path.length e3]) h.prf)) (htab:Hid (Qy w)) (hcf:Hid x.fits) (hpf:Hid h.prf.fits) (hkv:Hid (Bytes w N kv key)) (hvl2:Hid (Bytes w N vv val)) (hz:Hid (JO x s.time h.height (fun r=>h.prf.key=key∧h.prf.val=val∧Y5 r h.prf) z)) (hkl:(key).length≤140737488351232) (hvl:(val).length≤140737488351232) (Q:Exit→Act→World→Prop)
  (hQ:Hid (∀ (σ:Nat→Value) (w':World),Below w.heap.size w w'→/-14-/ σ 14=.int .i64 z→Q .normal ⟨#[y0,.int .i64 (k:Int),kv,vv,y4,.pointer (some ⟨gs,0,none⟩),y6,y7,y8,.pointer (some ⟨gh,0,none⟩),σ 14,σ 0,σ 1,σ 2,σ 3,σ 4,σ 5,σ 6,σ 7,σ 8,σ 9,σ 10,σ 11,σ 12,σ 13],[]⟩ w')) :
  Code.wp Tryz.prog (.region 1 ((Tryz.f27.body.bind (Q3 1)).getD #[]) true) Q ⟨#[y0,.int .i64 (k:Int),kv,vv,y4,.pointer (some ⟨gs,0,none⟩),y6,y7,y8,.pointer (some ⟨gh,0,none⟩),A0,A1,A2,A3,A4,A5,A6,A7,A8,A9,Aa,Ab,Ac,Ad,Ae],[]⟩ w:=by
 conv=>arg 2;arg 2;whnf
 conv=>arg 4;dsimp only
 refine QT (by kernel_rfl) (fun σ=>#[y0,.int .i64 (k:Int),kv,vv,y4,.pointer (some ⟨gs,0,none⟩),y6,y7,y8,.pointer (some ⟨gh,0,none⟩),σ 14,σ 0,σ 1,σ 2,σ 3,σ 4,σ 5,σ 6,σ 7,σ 8,σ 9,σ 10,σ 11,σ 12,σ 13]) (fun i=>([A1,A2,A3,A4,A5,A6,A7,A8,A9,Aa,Ab,Ac,Ad,Ae,A0]:List Value).getD i undef) rfl (fun i X W=>match i with
  | 0=>X=.pointer (some ⟨gs,3,none⟩)
  | 1=>X=.slice (some ⟨b,f,none⟩) n c1
  | 2=>X=.int .i64 (k:Int)
  | 3=>X=.pointer (some ⟨b,f+k*4,none⟩)
  | 4=>X=.agg #[.string x.chain,.int .i64 x.trust,.bool x.frozen,.slice ka x.known.length ma]
  | 5=>X=.pointer (some ⟨gs,2,none⟩)
  | 6=>X=.int .i64 s.time
  | 7=>X=.pointer (some ⟨gh,0,none⟩)
  | 8=>X=.int .i64 h.height
  | 9=>X=kv
  | 10=>X=vv
  | 11=>X=.pointer (some ⟨gh,1,none⟩)
  | 12=>X=.agg #[.int .i64 h.prf.index,.int .i64 h.prf.size,.slice q1 h.prf.key.length e1,.slice q2 h.prf.val.length e2,.slice q3 h.prf.path.length e3]
  | 13=>X=.int .i64 z
  | 14=>X=.int .i64 z
  | _=>True) ?_ (by kernel_rfl) ?_ ?_
 ·intro i X W W' HB H
  match i,H with
  | 0,H=>exact H
  | 1,H=>exact H
  | 2,H=>exact H
  | 3,H=>exact H
  | 4,H=>exact H
  | 5,H=>exact H
  | 6,H=>exact H
  | 7,H=>exact H
  | 8,H=>exact H
  | 9,H=>exact H
  | 10,H=>exact H
  | 11,H=>exact H
  | 12,H=>exact H
  | 13,H=>exact H
  | 14,H=>exact H
  | _+15,_=>exact trivial
 ·refine ⟨?_,?_,?_,?_,?_,?_,?_,?_,?_,?_,?_,?_,?_,?_,?_,trivial⟩
  ·
   intro σ W HJ hdep
   simp [Region.binds] at hdep
   have HJ:=hid HJ
   refine Qa rfl rfl ?_
   go_simp
   exact Ql.mk0 (.pointer (some ⟨gs,3,none⟩)) (by first | rfl | simp [Qe, *]) HJ.out rfl
  ·
   intro σ W HJ hdep
   simp [Region.binds] at hdep
   have HJ:=hid HJ
   have kc:=(rg hrs HJ).cell 3
   simp at kc
   refine Qa rfl rfl ?_
   go_simp
   exact Ql.mk0 (.slice (some ⟨b,f,none⟩) n c1) (by first | rfl | simp [Qe, *]) HJ.out rfl
  ·
   intro σ W HJ hdep
   simp [Region.binds] at hdep
   have HJ:=hid HJ
   refine Qa rfl rfl ?_
   go_simp
   exact Ql.mk0 (.int .i64 (k:Int)) (by first | rfl | simp [Qe, *]) HJ.out rfl
  ·
   intro σ W HJ hdep
   simp [Region.binds] at hdep
   have HJ:=hid HJ
   refine Qa rfl rfl ?_
   go_simp
   exact Ql.mk0 (.pointer (some ⟨b,f+k*4,none⟩)) (by first | rfl | simp [Qe, *]) HJ.out rfl
  ·
   intro σ W HJ hdep
   simp [Region.binds] at hdep
   have HJ:=hid HJ
   have x0:=(HJ.out.cell (p:=⟨b,f+k*4,none⟩) hb1).trans hca.out.1
   have x1:=(HJ.out.cell (p:=⟨b,f+k*4+1,none⟩) hb1).trans hca.out.2.1
   have x2:=(HJ.out.cell (p:=⟨b,f+k*4+2,none⟩) hb1).trans hca.out.2.2.1
   have x3:=(HJ.out.cell (p:=⟨b,f+k*4+3,none⟩) hb1).trans hca.out.2.2.2
   refine Qa rfl rfl ?_
   go_simp
   exact Ql.mk0 (.agg #[.string x.chain,.int .i64 x.trust,.bool x.frozen,.slice ka x.known.length ma]) (by first | rfl | simp [Qe, *]) HJ.out rfl
  ·
   intro σ W HJ hdep
   simp [Region.binds] at hdep
   have HJ:=hid HJ
   refine Qa rfl rfl ?_
   go_simp
   exact Ql.mk0 (.pointer (some ⟨gs,2,none⟩)) (by first | rfl | simp [Qe, *]) HJ.out rfl
  ·
   intro σ W HJ hdep
   simp [Region.binds] at hdep
   have HJ:=hid HJ
   have kc:=(rg hrs HJ).cell 2
   simp at kc
   refine Qa rfl rfl ?_
   go_simp
   exact Ql.mk0 (.int .i64 s.time) (by first | rfl | simp [Qe, *]) HJ.out rfl
  ·
   intro σ W HJ hdep
   simp [Region.binds] at hdep
   have HJ:=hid HJ
   refine Qa rfl rfl ?_
   go_simp
   exact Ql.mk0 (.pointer (some ⟨gh,0,none⟩)) (by first | rfl | simp [Qe, *]) HJ.out rfl
  ·
   intro σ W HJ hdep
   simp [Region.binds] at hdep
   have HJ:=hid HJ
   have kc:=(rg hrh HJ).cell 0
   simp at kc
   refine Qa rfl rfl ?_
   go_simp
   exact Ql.mk0 (.int .i64 h.height) (by first | rfl | simp [Qe, *]) HJ.out rfl
  ·
   intro σ W HJ hdep
   simp [Region.binds] at hdep
   have HJ:=hid HJ
   refine Qa rfl rfl ?_
   go_simp
   exact Ql.mk0 (kv) (by first | rfl | simp [Qe, *]) HJ.out rfl
  ·
   intro σ W HJ hdep
   simp [Region.binds] at hdep
   have HJ:=hid HJ
   refine Qa rfl rfl ?_
   go_simp
   exact Ql.mk0 (vv) (by first | rfl | simp [Qe, *]) HJ.out rfl
  ·
   intro σ W HJ hdep
   simp [Region.binds] at hdep
   have HJ:=hid HJ
   refine Qa rfl rfl ?_
   go_simp
   exact Ql.mk0 (.pointer (some ⟨gh,1,none⟩)) (by first | rfl | simp [Qe, *]) HJ.out rfl
  ·
   intro σ W HJ hdep
   simp [Region.binds] at hdep
   have HJ:=hid HJ
   have k1:=(rg hrh HJ).cell 1
   have k2:=(rg hrh HJ).cell 2
   have k3:=(rg hrh HJ).cell 3
   have k4:=(rg hrh HJ).cell 4
   have k5:=(rg hrh HJ).cell 5
   simp at k1
   simp at k2
   simp at k3
   simp at k4
   simp at k5
   refine Qa rfl rfl ?_
   go_simp
   exact Ql.mk0 (.agg #[.int .i64 h.prf.index,.int .i64 h.prf.size,.slice q1 h.prf.key.length e1,.slice q2 h.prf.val.length e2,.slice q3 h.prf.path.length e3]) (by first | rfl | simp [Qe, *]) HJ.out rfl
  ·
   intro σ W HJ hdep
   simp [Region.binds] at hdep
   have HJ:=hid HJ
   have hkk:=(hkv.out.below (HJ.out.mono hN)).mono (Nat.le_trans hN HJ.out.size)
   have hvv:=(hvl2.out.below (HJ.out.mono hN)).mono (Nat.le_trans hN HJ.out.size)
   have HC:=hid (QaT.z Qgk x s.time h.height (key) (val) h.prf (.agg #[.string x.chain,.int .i64 x.trust,.bool x.frozen,.slice ka x.known.length ma]) kv vv (.agg #[.int .i64 h.prf.index,.int .i64 h.prf.size,.slice q1 h.prf.key.length e1,.slice q2 h.prf.val.length e2,.slice q3 h.prf.path.length e3]) W.heap.size W (htab.out.past HJ.out) (Nat.le_refl _) ((hcv.out.below (HJ.out.mono hN)).mono (Nat.le_trans hN HJ.out.size)) hkk hvv ((hpv.out.below (HJ.out.mono hN)).mono (Nat.le_trans hN HJ.out.size)) hcf.out hkl hvl hpf.out hz.out)
   clear hkk hvv
   refine Qa rfl rfl ?_
   go_simp
   refine (HC.out).mono ?_
   rintro e w2 ⟨rfl,hb2⟩
   exact Ql.mk (.int .i64 z) (by first | rfl | simp [Qe, *]) hb2 HJ.out rfl
  ·
   intro σ W HJ hdep
   simp [Region.binds] at hdep
   have HJ:=hid HJ
   refine Qa rfl rfl ?_
   go_simp
   exact Ql.mk0 (.int .i64 z) (by first | rfl | simp [Qe, *]) HJ.out rfl
 ·intro σ w' hb hg
  exact hQ.out σ w' hb (by first | exact ⟨hg 14 (by decide)⟩ | exact hg 14 (by decide))
theorem Qa0 (s:St) (v hv2 kv vv:Value) (N:Nat) (w:World) (c z:Int) (key val:List (BitVec 8)) (h:Sh) (hv:StV w N v s) (hh:ShV w N hv2 h) (hk:Bytes w N kv key) (hvl2:Bytes w N vv val) (hN:N≤w.heap.size) (hfit:s.fits) (hhf:h.fits) (htab:Qy w) (hc:0≤c∧c<(s.clients.length:Int)) (hkl:key.length≤140737488351232) (hvl:val.length≤140737488351232) (hz:JB s c h key val z) :
  Calls Tryz.prog 27 #[v,.int .i64 c,kv,vv,hv2] w fun e w'=>e=.returned (.int .i64 z)∧Below w.heap.size w w':=by
 obtain ⟨o1,c1,o2,c2,o3,c3,o4,c4,o5,c5,o6,c6,o7,c7,rfl,hm⟩:=hv.open
 obtain ⟨q1,e1,q2,e2,q3,e3,r1,s1,r2,s2,r3,s3,r4,s4,r5,s5,r6,s6,rfl,hpv⟩:=hh.open
 obtain ⟨k,rfl⟩:∃ k:Nat,c=(k:Int):=⟨c.toNat,by omega⟩
 have hlt:k<s.clients.length:=by omega
 have hlt':(k:Int)<(s.clients.length:Int):=by omega
 obtain ⟨x,hx⟩:∃ x,s.clients[k]?=some x:=⟨_,List.getElem?_eq_getElem hlt⟩
 have HZ:=hid (show JO x s.time h.height _ z by have:=hz;unfold JB at this;rw [QbW hx] at this;exact this)
 obtain ⟨w0,hw0⟩:∃ w0,(w.alloc (.cells #[.string s.name,.int .i64 s.height,.int .i64 s.time,.slice o1 s.clients.length c1,.slice o2 s.conns.length c2,.slice o3 s.chans.length c3,.slice o4 s.sent.length c4,.slice o5 s.got.length c5,.slice o6 s.acks.length c6,.slice o7 s.purses.length c7] 28)).alloc (.cells #[.int .i64 h.height,.int .i64 h.prf.index,.int .i64 h.prf.size,.slice q1 h.prf.key.length e1,.slice q2 h.prf.val.length e2,.slice q3 h.prf.path.length e3,.bool h.gap.hasL,.bool h.gap.hasR,.int .i64 h.gap.left.index,.int .i64 h.gap.left.size,.slice r1 h.gap.left.key.length s1,.slice r2 h.gap.left.val.length s2,.slice r3 h.gap.left.path.length s3,.int .i64 h.gap.right.index,.int .i64 h.gap.right.size,.slice r4 h.gap.right.key.length s4,.slice r5 h.gap.right.val.length s5,.slice r6 h.gap.right.path.length s6] 36)=w0:=⟨_,rfl⟩
 have hb0:Below w.heap.size w w0:=by rw [← hw0];exact ((Below.refl _ _).alloc (Nat.le_refl _) _).alloc (by simp) _
 have HB0:=hid hb0
 have HR0:=hid (show Row w0 (w.heap.size) 28 [.string s.name,.int .i64 s.height,.int .i64 s.time,.slice o1 s.clients.length c1,.slice o2 s.conns.length c2,.slice o3 s.chans.length c3,.slice o4 s.sent.length c4,.slice o5 s.got.length c5,.slice o6 s.acks.length c6,.slice o7 s.purses.length c7] by rw [← hw0];exact ((Row.new _ _ _).alloc _))
 have HR1:=hid (show Row w0 (w.heap.size+1) 36 [.int .i64 h.height,.int .i64 h.prf.index,.int .i64 h.prf.size,.slice q1 h.prf.key.length e1,.slice q2 h.prf.val.length e2,.slice q3 h.prf.path.length e3,.bool h.gap.hasL,.bool h.gap.hasR,.int .i64 h.gap.left.index,.int .i64 h.gap.left.size,.slice r1 h.gap.left.key.length s1,.slice r2 h.gap.left.val.length s2,.slice r3 h.gap.left.path.length s3,.int .i64 h.gap.right.index,.int .i64 h.gap.right.size,.slice r4 h.gap.right.key.length s4,.slice r5 h.gap.right.val.length s5,.slice r6 h.gap.right.path.length s6] by rw [← hw0];exact (Row.newAt _ _ _ _ (by simp)))
 obtain ⟨b,f,rfl,gx⟩:=(hm.below (hb0.mono hN)).clients.spot (by omega)
 obtain ⟨hbN,r,hr,cx⟩:=gx k x hx
 obtain ⟨kc,rfl,hkc⟩:=hr
 obtain ⟨ka,ma,rfl,-⟩:=hkc.shape
 have x0:=cx 0 _ rfl
 have x1:=cx 1 _ rfl
 have x2:=cx 2 _ rfl
 have x3:=cx 3 _ rfl
 simp only [Nat.add_zero] at x0
 have HCA:=hid (show w0.cell? ⟨b,f+k*4,none⟩=some (.string x.chain)∧w0.cell? ⟨b,f+k*4+1,none⟩=some (.int .i64 x.trust)∧w0.cell? ⟨b,f+k*4+2,none⟩=some (.bool x.frozen)∧w0.cell? ⟨b,f+k*4+3,none⟩=some (.slice ka x.known.length ma) from ⟨x0,x1,x2,x3⟩)
 have HCV:=hid (show ClV w0 N (.agg #[.string x.chain,.int .i64 x.trust,.bool x.frozen,.slice ka x.known.length ma]) x from ⟨_,rfl,hkc⟩)
 have HXF:=hid (hfit.2.1.2 x (List.mem_of_getElem? hx))
 have HPV:=hid (hpv.below (hb0.mono hN))
 have HPF:=hid hhf.1
 have HTAB:=hid (htab.past hb0)
 have hbl:b<w0.heap.size:=Nat.lt_of_lt_of_le hbN (Nat.le_trans hN hb0.size)
 have hN0:N≤w0.heap.size:=Nat.le_trans hN hb0.size
 have HK:=hid (hk.below (hb0.mono hN))
 have HV:=hid (hvl2.below (hb0.mono hN))
 have HW0:=hid hw0
 clear hv hm hw0 gx cx hx hkc x0 x1 x2 x3 hpv hh htab hfit hhf hz hk hvl2 hb0
 go_enter Tryz.func27,Tryz.ntmps27
 go_upto_region 1 with fail
 rw [HW0.out]
 refine Qkp s x k s.clients.length b f c1 ma ka o2 o3 o4 o5 o6 o7 c2 c3 c4 c5 c6 c7 h z key val kv vv q1 q2 q3 r1 r2 r3 r4 r5 r6 e1 e2 e3 s1 s2 s3 s4 s5 s6 hN0 HR0 hlt' hbl HCA HCV HR1 HPV HTAB HXF HPF HK HV HZ hkl hvl _ (hid ?_)
 intro σ w1 hb1 ea
 have HB1:=hgo HB0 hb1
 rw [ea]
 clear hb1 ea
 go_wp2
 go_ret
 exact ⟨rfl,HB1.out⟩
end Go.Proofs.YtbgdpfeobklnhaaGreatDoor
