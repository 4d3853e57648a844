/-
  What keeps something from going over a client: package conn's answer, and the document's.
-/
import Derived.Test.YtbgdpfeobklnhaaGreatDoorcvCoMath
import Derived.Test.YtbgdpfeobklnhaaGreatDoorcvClRAsk
import Derived.Test.YtbgdpfeobklnhaaGreatDoorcvRegions
namespace Go.Proofs.YtbgdpfeobklnhaaGreatDoor
set_option maxRecDepth 1000000
set_option maxHeartbeats 8000000
open Go.RowKit
def QjM (f:FuncId):Prop:=∀ (s:St) (v:Value) (N:Nat) (w:World) (c:Int),StV w N v s→N≤w.heap.size→Qk s=0 →
 Calls Tryz.prog f #[v,.int .i64 c] w fun e w'=>e=.returned (.int .i64 (YZ s c))∧Below w.heap.size w w'
theorem QkK {y0 y3 y4 y5 y6 y7 y8 y9 A0 A1 A2 A3 A4 A5 A6 A7 A8 A9 Aa Ab Ac Ad Ae:Value} {gs N:Nat} (s:St) (x:Cl) (k n b f c1 ma:Nat) (ka o2 o3 o4 o5 o6 o7:Option Addr) (c2 c3 c4 c5 c6 c7:Nat) {w:World} (hN:N≤w.heap.size) (hrs:Hid (Row w gs 28 [.string s.name,.int .i64 s.height,.int .i64 s.time,.slice (some ⟨b,f,none⟩) n c1,.slice o2 s.conns.length c2,.slice o3 s.chans.length c3,.slice o4 s.sent.length c4,.slice o5 s.got.length c5,.slice o6 s.acks.length c6,.slice o7 s.purses.length c7])) (_hlt:(k:Int)<(n:Int)) (hb1:b<w.heap.size) (hca:Hid (w.cell? ⟨b,f+k*4,none⟩=some (.string x.chain)∧w.cell? ⟨b,f+k*4+1,none⟩=some (.int .i64 x.trust)∧w.cell? ⟨b,f+k*4+2,none⟩=some (.bool x.frozen)∧w.cell? ⟨b,f+k*4+3,none⟩=some (.slice ka x.known.length ma))) (hcv:Hid (ClV w N (.agg #[.string x.chain,.int .i64 x.trust,.bool x.frozen,.slice ka x.known.length ma]) x)) (hw0:Hid (Qg x=0)) (ht:Hid (0≤s.time∧s.time≤1000000000000)) (Q:Exit→Act→World→Prop)
  (hQ:Hid (∀ (σ:Nat→Value) (w':World),Below w.heap.size w w'→/-9-/ σ 9=.bool (!QM x s.time)→Q .normal ⟨#[y0,.int .i64 (k:Int),.pointer (some ⟨gs,0,none⟩),y3,y4,y5,y6,y7,y8,y9,A0,A1,A2,A3,A4,σ 9,σ 0,σ 1,σ 2,σ 3,σ 4,σ 5,σ 6,σ 7,σ 8],[]⟩ w')) :
  Code.wp Tryz.prog (.region 3 ((Tryz.f78.body.bind (Q3 3)).getD #[]) true) Q ⟨#[y0,.int .i64 (k:Int),.pointer (some ⟨gs,0,none⟩),y3,y4,y5,y6,y7,y8,y9,A0,A1,A2,A3,A4,A5,A6,A7,A8,A9,Aa,Ab,Ac,Ad,Ae],[]⟩ w:=by
 conv=>arg 2;arg 2;whnf
 conv=>arg 4;dsimp only
 refine QT (by kernel_rfl) (fun σ=>#[y0,.int .i64 (k:Int),.pointer (some ⟨gs,0,none⟩),y3,y4,y5,y6,y7,y8,y9,A0,A1,A2,A3,A4,σ 9,σ 0,σ 1,σ 2,σ 3,σ 4,σ 5,σ 6,σ 7,σ 8]) (fun i=>([A6,A7,A8,A9,Aa,Ab,Ac,Ad,Ae,A5]:List Value).getD i undef) rfl (fun i X W=>match i with
  | 0=>X=.pointer (some ⟨gs,3,none⟩)
  | 1=>X=.slice (some ⟨b,f,none⟩) n c1
  | 2=>X=.int .i64 (k:Int)
  | 3=>X=.pointer (some ⟨b,f+k*4,none⟩)
  | 4=>X=.agg #[.string x.chain,.int .i64 x.trust,.bool x.frozen,.slice ka x.known.length ma]
  | 5=>X=.pointer (some ⟨gs,2,none⟩)
  | 6=>X=.int .i64 s.time
  | 7=>X=.bool (QM x s.time)
  | 8=>X=.bool (!QM x s.time)
  | 9=>X=.bool (!QM x s.time)
  | _=>True) ?_ (by kernel_rfl) ?_ ?_
 ·intro i X W W' HB H
  match i,H with
  | 0,H=>exact H
  | 1,H=>exact H
  | 2,H=>exact H
  | 3,H=>exact H
  | 4,H=>exact H
  | 5,H=>exact H
  | 6,H=>exact H
  | 7,H=>exact H
  | 8,H=>exact H
  | 9,H=>exact H
  | _+10,_=>exact trivial
 ·refine ⟨?_,?_,?_,?_,?_,?_,?_,?_,?_,?_,trivial⟩
  ·
   intro σ W HJ hdep
   simp [Region.binds] at hdep
   have HJ:=hid HJ
   refine Qa rfl rfl ?_
   go_simp
   exact Ql.mk0 (.pointer (some ⟨gs,3,none⟩)) (by first | rfl | simp [Qe, *]) HJ.out rfl
  ·
   intro σ W HJ hdep
   simp [Region.binds] at hdep
   have HJ:=hid HJ
   have kc:=(rg hrs HJ).cell 3
   simp at kc
   refine Qa rfl rfl ?_
   go_simp
   exact Ql.mk0 (.slice (some ⟨b,f,none⟩) n c1) (by first | rfl | simp [Qe, *]) HJ.out rfl
  ·
   intro σ W HJ hdep
   simp [Region.binds] at hdep
   have HJ:=hid HJ
   refine Qa rfl rfl ?_
   go_simp
   exact Ql.mk0 (.int .i64 (k:Int)) (by first | rfl | simp [Qe, *]) HJ.out rfl
  ·
   intro σ W HJ hdep
   simp [Region.binds] at hdep
   have HJ:=hid HJ
   refine Qa rfl rfl ?_
   go_simp
   exact Ql.mk0 (.pointer (some ⟨b,f+k*4,none⟩)) (by first | rfl | simp [Qe, *]) HJ.out rfl
  ·
   intro σ W HJ hdep
   simp [Region.binds] at hdep
   have HJ:=hid HJ
   have x0:=(HJ.out.cell (p:=⟨b,f+k*4,none⟩) hb1).trans hca.out.1
   have x1:=(HJ.out.cell (p:=⟨b,f+k*4+1,none⟩) hb1).trans hca.out.2.1
   have x2:=(HJ.out.cell (p:=⟨b,f+k*4+2,none⟩) hb1).trans hca.out.2.2.1
   have x3:=(HJ.out.cell (p:=⟨b,f+k*4+3,none⟩) hb1).trans hca.out.2.2.2
   refine Qa rfl rfl ?_
   go_simp
   exact Ql.mk0 (.agg #[.string x.chain,.int .i64 x.trust,.bool x.frozen,.slice ka x.known.length ma]) (by first | rfl | simp [Qe, *]) HJ.out rfl
  ·
   intro σ W HJ hdep
   simp [Region.binds] at hdep
   have HJ:=hid HJ
   refine Qa rfl rfl ?_
   go_simp
   exact Ql.mk0 (.pointer (some ⟨gs,2,none⟩)) (by first | rfl | simp [Qe, *]) HJ.out rfl
  ·
   intro σ W HJ hdep
   simp [Region.binds] at hdep
   have HJ:=hid HJ
   have kc:=(rg hrs HJ).cell 2
   simp at kc
   refine Qa rfl rfl ?_
   go_simp
   exact Ql.mk0 (.int .i64 s.time) (by first | rfl | simp [Qe, *]) HJ.out rfl
  ·
   intro σ W HJ hdep
   simp [Region.binds] at hdep
   have HJ:=hid HJ
   have HC:=hid (QgJ x s.time (.agg #[.string x.chain,.int .i64 x.trust,.bool x.frozen,.slice ka x.known.length ma]) N W (hcv.out.below (HJ.out.mono hN)) (Nat.le_trans hN HJ.out.size) hw0.out ht.out)
   refine Qa rfl rfl ?_
   go_simp
   refine (HC.out).mono ?_
   rintro e w2 ⟨rfl,hb2⟩
   exact Ql.mk (.bool (QM x s.time)) (by first | rfl | simp [Qe, *]) hb2 HJ.out rfl
  ·
   intro σ W HJ hdep
   simp [Region.binds] at hdep
   have HJ:=hid HJ
   refine Qa rfl rfl ?_
   go_simp
   exact Ql.mk0 (.bool (!QM x s.time)) (by first | rfl | simp [Qe, *]) HJ.out rfl
  ·
   intro σ W HJ hdep
   simp [Region.binds] at hdep
   have HJ:=hid HJ
   refine Qa rfl rfl ?_
   go_simp
   exact Ql.mk0 (.bool (!QM x s.time)) (by first | rfl | simp [Qe, *]) HJ.out rfl
 ·intro σ w' hb hg
  exact hQ.out σ w' hb (by first | exact ⟨hg 9 (by decide)⟩ | exact hg 9 (by decide))
theorem QiN {y0 y3 y4 y5 y6 y7 y8 y9 A0 A1 A2 A3 A4 A5 A6 A7 A8 A9 Aa Ab Ac:Value} {gs N:Nat} (s:St) (x:Cl) (k n b f c1 ma:Nat) (ka o2 o3 o4 o5 o6 o7:Option Addr) (c2 c3 c4 c5 c6 c7:Nat) {w:World} (hN:N≤w.heap.size) (hrs:Hid (Row w gs 28 [.string s.name,.int .i64 s.height,.int .i64 s.time,.slice (some ⟨b,f,none⟩) n c1,.slice o2 s.conns.length c2,.slice o3 s.chans.length c3,.slice o4 s.sent.length c4,.slice o5 s.got.length c5,.slice o6 s.acks.length c6,.slice o7 s.purses.length c7])) (_hlt:(k:Int)<(n:Int)) (hb1:b<w.heap.size) (hca:Hid (w.cell? ⟨b,f+k*4,none⟩=some (.string x.chain)∧w.cell? ⟨b,f+k*4+1,none⟩=some (.int .i64 x.trust)∧w.cell? ⟨b,f+k*4+2,none⟩=some (.bool x.frozen)∧w.cell? ⟨b,f+k*4+3,none⟩=some (.slice ka x.known.length ma))) (hcv:Hid (ClV w N (.agg #[.string x.chain,.int .i64 x.trust,.bool x.frozen,.slice ka x.known.length ma]) x)) (hw0:Hid (Qg x=0)) (ht:Hid (0≤s.time∧s.time≤1000000000000)) (Q:Exit→Act→World→Prop)
  (hQ:Hid (∀ (σ:Nat→Value) (w':World),Below w.heap.size w w'→/-8-/ σ 8=.bool (!QM x s.time)→Q .normal ⟨#[y0,.int .i64 (k:Int),.pointer (some ⟨gs,0,none⟩),y3,y4,y5,y6,y7,y8,y9,A0,A1,A2,A3,σ 0,σ 1,σ 2,σ 3,σ 4,σ 5,σ 6,σ 7,σ 8],[]⟩ w')) :
  Code.wp Tryz.prog (.region 3 ((Tryz.f61.body.bind (Q3 3)).getD #[]) true) Q ⟨#[y0,.int .i64 (k:Int),.pointer (some ⟨gs,0,none⟩),y3,y4,y5,y6,y7,y8,y9,A0,A1,A2,A3,A4,A5,A6,A7,A8,A9,Aa,Ab,Ac],[]⟩ w:=by
 conv=>arg 2;arg 2;whnf
 conv=>arg 4;dsimp only
 refine QT (by kernel_rfl) (fun σ=>#[y0,.int .i64 (k:Int),.pointer (some ⟨gs,0,none⟩),y3,y4,y5,y6,y7,y8,y9,A0,A1,A2,A3,σ 0,σ 1,σ 2,σ 3,σ 4,σ 5,σ 6,σ 7,σ 8]) (fun i=>([A4,A5,A6,A7,A8,A9,Aa,Ab,Ac]:List Value).getD i undef) rfl (fun i X W=>match i with
  | 0=>X=.pointer (some ⟨gs,3,none⟩)
  | 1=>X=.slice (some ⟨b,f,none⟩) n c1
  | 2=>X=.int .i64 (k:Int)
  | 3=>X=.pointer (some ⟨b,f+k*4,none⟩)
  | 4=>X=.agg #[.string x.chain,.int .i64 x.trust,.bool x.frozen,.slice ka x.known.length ma]
  | 5=>X=.pointer (some ⟨gs,2,none⟩)
  | 6=>X=.int .i64 s.time
  | 7=>X=.bool (QM x s.time)
  | 8=>X=.bool (!QM x s.time)
  | _=>True) ?_ (by kernel_rfl) ?_ ?_
 ·intro i X W W' HB H
  match i,H with
  | 0,H=>exact H
  | 1,H=>exact H
  | 2,H=>exact H
  | 3,H=>exact H
  | 4,H=>exact H
  | 5,H=>exact H
  | 6,H=>exact H
  | 7,H=>exact H
  | 8,H=>exact H
  | _+9,_=>exact trivial
 ·refine ⟨?_,?_,?_,?_,?_,?_,?_,?_,?_,trivial⟩
  ·
   intro σ W HJ hdep
   simp [Region.binds] at hdep
   have HJ:=hid HJ
   refine Qa rfl rfl ?_
   go_simp
   exact Ql.mk0 (.pointer (some ⟨gs,3,none⟩)) (by first | rfl | simp [Qe, *]) HJ.out rfl
  ·
   intro σ W HJ hdep
   simp [Region.binds] at hdep
   have HJ:=hid HJ
   have kc:=(rg hrs HJ).cell 3
   simp at kc
   refine Qa rfl rfl ?_
   go_simp
   exact Ql.mk0 (.slice (some ⟨b,f,none⟩) n c1) (by first | rfl | simp [Qe, *]) HJ.out rfl
  ·
   intro σ W HJ hdep
   simp [Region.binds] at hdep
   have HJ:=hid HJ
   refine Qa rfl rfl ?_
   go_simp
   exact Ql.mk0 (.int .i64 (k:Int)) (by first | rfl | simp [Qe, *]) HJ.out rfl
  ·
   intro σ W HJ hdep
   simp [Region.binds] at hdep
   have HJ:=hid HJ
   refine Qa rfl rfl ?_
   go_simp
   exact Ql.mk0 (.pointer (some ⟨b,f+k*4,none⟩)) (by first | rfl | simp [Qe, *]) HJ.out rfl
  ·
   intro σ W HJ hdep
   simp [Region.binds] at hdep
   have HJ:=hid HJ
   have x0:=(HJ.out.cell (p:=⟨b,f+k*4,none⟩) hb1).trans hca.out.1
   have x1:=(HJ.out.cell (p:=⟨b,f+k*4+1,none⟩) hb1).trans hca.out.2.1
   have x2:=(HJ.out.cell (p:=⟨b,f+k*4+2,none⟩) hb1).trans hca.out.2.2.1
   have x3:=(HJ.out.cell (p:=⟨b,f+k*4+3,none⟩) hb1).trans hca.out.2.2.2
   refine Qa rfl rfl ?_
   go_simp
   exact Ql.mk0 (.agg #[.string x.chain,.int .i64 x.trust,.bool x.frozen,.slice ka x.known.length ma]) (by first | rfl | simp [Qe, *]) HJ.out rfl
  ·
   intro σ W HJ hdep
   simp [Region.binds] at hdep
   have HJ:=hid HJ
   refine Qa rfl rfl ?_
   go_simp
   exact Ql.mk0 (.pointer (some ⟨gs,2,none⟩)) (by first | rfl | simp [Qe, *]) HJ.out rfl
  ·
   intro σ W HJ hdep
   simp [Region.binds] at hdep
   have HJ:=hid HJ
   have kc:=(rg hrs HJ).cell 2
   simp at kc
   refine Qa rfl rfl ?_
   go_simp
   exact Ql.mk0 (.int .i64 s.time) (by first | rfl | simp [Qe, *]) HJ.out rfl
  ·
   intro σ W HJ hdep
   simp [Region.binds] at hdep
   have HJ:=hid HJ
   have HC:=hid (Qc8 x s.time (.agg #[.string x.chain,.int .i64 x.trust,.bool x.frozen,.slice ka x.known.length ma]) N W (hcv.out.below (HJ.out.mono hN)) (Nat.le_trans hN HJ.out.size) hw0.out ht.out)
   refine Qa rfl rfl ?_
   go_simp
   refine (HC.out).mono ?_
   rintro e w2 ⟨rfl,hb2⟩
   exact Ql.mk (.bool (QM x s.time)) (by first | rfl | simp [Qe, *]) hb2 HJ.out rfl
  ·
   intro σ W HJ hdep
   simp [Region.binds] at hdep
   have HJ:=hid HJ
   refine Qa rfl rfl ?_
   go_simp
   exact Ql.mk0 (.bool (!QM x s.time)) (by first | rfl | simp [Qe, *]) HJ.out rfl
 ·intro σ w' hb hg
  exact hQ.out σ w' hb (by first | exact ⟨hg 8 (by decide)⟩ | exact hg 8 (by decide))
theorem QkJ:QjM 78:=by
 intro s v N w c hv hN hw
 obtain ⟨o1,c1,o2,c2,o3,c3,o4,c4,o5,c5,o6,c6,o7,c7,rfl,hm⟩:=hv.open
 have HT:=hid (Qcp hw)
 have HC:=hid (ZU hw)
 obtain ⟨w0,hw0⟩:∃ w0,w.alloc (.cells #[.string s.name,.int .i64 s.height,.int .i64 s.time,.slice o1 s.clients.length c1,.slice o2 s.conns.length c2,.slice o3 s.chans.length c3,.slice o4 s.sent.length c4,.slice o5 s.got.length c5,.slice o6 s.acks.length c6,.slice o7 s.purses.length c7] 28)=w0:=⟨_,rfl⟩
 have hb0:=bof hw0
 have HB0:=hid hb0
 have HR0:=hid (QaL hw0)
 have k3:w0.cell? ⟨w.heap.size,3,none⟩=some (.slice o1 s.clients.length c1):=HR0.out.cell 3
 have HW0:=hid hw0
 by_cases h0:c<0
 ·have e0:decide (c<0)=true:=by simpa using h0
  have HL:=hid (Qah (s:=s) (.inl h0))
  clear hv hm hw hb0 hw0
  go_enter Tryz.func78,Tryz.ntmps78
  go_upto_region 1 with fail
  rw [HW0.out]
  go_wp2
  go_ret
  exact ⟨by rw [HL.out];first | done | rfl,HB0.out⟩
 have e0:decide (c<0)=false:=by simpa using h0
 by_cases h1:(s.clients.length:Int)≤c
 ·have e1:decide ((s.clients.length:Int)≤c)=true:=by simpa using h1
  have HL:=hid (Qah (s:=s) (.inr h1))
  clear hv hm hw hb0 hw0
  go_enter Tryz.func78,Tryz.ntmps78
  go_upto_region 1 with fail
  rw [HW0.out]
  go_wp2
  go_ret
  exact ⟨by rw [HL.out];first | done | rfl,HB0.out⟩
 have e1:decide ((s.clients.length:Int)≤c)=false:=by simpa using h1
 obtain ⟨k,rfl⟩:∃ k:Nat,c=(k:Int):=⟨c.toNat,by omega⟩
 have hlt:k<s.clients.length:=by omega
 have hlt':(k:Int)<(s.clients.length:Int):=by omega
 obtain ⟨x,hx⟩:∃ x,s.clients[k]?=some x:=⟨_,List.getElem?_eq_getElem hlt⟩
 obtain ⟨b,f,rfl,gx⟩:=(hm.below (hb0.mono hN)).clients.spot (by omega)
 obtain ⟨hbN,r,hr,cx⟩:=gx k x hx
 obtain ⟨kv,rfl,hkv⟩:=hr
 obtain ⟨ka,ma,rfl,-⟩:=hkv.shape
 have x0:=cx 0 _ rfl
 have x1:=cx 1 _ rfl
 have x2:=cx 2 _ rfl
 have x3:=cx 3 _ rfl
 simp only [Nat.add_zero] at x0
 have HCA:=hid (show w0.cell? ⟨b,f+k*4,none⟩=some (.string x.chain)∧w0.cell? ⟨b,f+k*4+1,none⟩=some (.int .i64 x.trust)∧w0.cell? ⟨b,f+k*4+2,none⟩=some (.bool x.frozen)∧w0.cell? ⟨b,f+k*4+3,none⟩=some (.slice ka x.known.length ma) from ⟨x0,x1,x2,x3⟩)
 have HCV:=hid (show ClV w0 N (.agg #[.string x.chain,.int .i64 x.trust,.bool x.frozen,.slice ka x.known.length ma]) x from ⟨_,rfl,hkv⟩)
 have HXW:=hid (HC.out x (List.mem_of_getElem? hx))
 have HL:=hid (Qfb hx)
 have hbl:b<w0.heap.size:=Nat.lt_of_lt_of_le hbN (Nat.le_trans hN hb0.size)
 have hN0:N≤w0.heap.size:=Nat.le_trans hN hb0.size
 clear hv hm hw hb0 hw0 gx cx hx hkv x0 x1 x2 x3
 go_enter Tryz.func78,Tryz.ntmps78
 go_upto_region 1 with fail
 rw [HW0.out]
 go_upto_region 3 with fail
 refine QkK s x k s.clients.length b f c1 ma ka o2 o3 o4 o5 o6 o7 c2 c3 c4 c5 c6 c7 hN0 HR0 hlt' hbl HCA HCV HXW HT _ (hid ?_)
 intro σ w1 hb1 ea
 have HB1:=hgo HB0 hb1
 rw [ea]
 clear hb1 ea
 cases hab:QM x s.time with
 | false =>
  have HL2:=hid (show YZ s (k:Int)=12 by rw [HL.out,hab];rfl)
  clear hab
  go_wp2
  go_ret
  exact ⟨by rw [HL2.out];first | done | rfl,HB1.out⟩
 | true =>
  have HL2:=hid (show YZ s (k:Int)=0 by rw [HL.out,hab];rfl)
  clear hab
  go_wp2
  go_ret
  exact ⟨by rw [HL2.out];first | done | rfl,HB1.out⟩
theorem QiM:QjM 61:=by
 intro s v N w c hv hN hw
 obtain ⟨o1,c1,o2,c2,o3,c3,o4,c4,o5,c5,o6,c6,o7,c7,rfl,hm⟩:=hv.open
 have HT:=hid (Qcp hw)
 have HC:=hid (ZU hw)
 obtain ⟨w0,hw0⟩:∃ w0,w.alloc (.cells #[.string s.name,.int .i64 s.height,.int .i64 s.time,.slice o1 s.clients.length c1,.slice o2 s.conns.length c2,.slice o3 s.chans.length c3,.slice o4 s.sent.length c4,.slice o5 s.got.length c5,.slice o6 s.acks.length c6,.slice o7 s.purses.length c7] 28)=w0:=⟨_,rfl⟩
 have hb0:=bof hw0
 have HB0:=hid hb0
 have HR0:=hid (QaL hw0)
 have k3:w0.cell? ⟨w.heap.size,3,none⟩=some (.slice o1 s.clients.length c1):=HR0.out.cell 3
 have HW0:=hid hw0
 by_cases h0:c<0
 ·have e0:decide (c<0)=true:=by simpa using h0
  have HL:=hid (Qah (s:=s) (.inl h0))
  clear hv hm hw hb0 hw0
  go_enter Tryz.func61,Tryz.ntmps61
  go_upto_region 1 with fail
  rw [HW0.out]
  go_wp2
  go_ret
  exact ⟨by rw [HL.out];first | done | rfl,HB0.out⟩
 have e0:decide (c<0)=false:=by simpa using h0
 by_cases h1:(s.clients.length:Int)≤c
 ·have e1:decide ((s.clients.length:Int)≤c)=true:=by simpa using h1
  have HL:=hid (Qah (s:=s) (.inr h1))
  clear hv hm hw hb0 hw0
  go_enter Tryz.func61,Tryz.ntmps61
  go_upto_region 1 with fail
  rw [HW0.out]
  go_wp2
  go_ret
  exact ⟨by rw [HL.out];first | done | rfl,HB0.out⟩
 have e1:decide ((s.clients.length:Int)≤c)=false:=by simpa using h1
 obtain ⟨k,rfl⟩:∃ k:Nat,c=(k:Int):=⟨c.toNat,by omega⟩
 have hlt:k<s.clients.length:=by omega
 have hlt':(k:Int)<(s.clients.length:Int):=by omega
 obtain ⟨x,hx⟩:∃ x,s.clients[k]?=some x:=⟨_,List.getElem?_eq_getElem hlt⟩
 obtain ⟨b,f,rfl,gx⟩:=(hm.below (hb0.mono hN)).clients.spot (by omega)
 obtain ⟨hbN,r,hr,cx⟩:=gx k x hx
 obtain ⟨kv,rfl,hkv⟩:=hr
 obtain ⟨ka,ma,rfl,-⟩:=hkv.shape
 have x0:=cx 0 _ rfl
 have x1:=cx 1 _ rfl
 have x2:=cx 2 _ rfl
 have x3:=cx 3 _ rfl
 simp only [Nat.add_zero] at x0
 have HCA:=hid (show w0.cell? ⟨b,f+k*4,none⟩=some (.string x.chain)∧w0.cell? ⟨b,f+k*4+1,none⟩=some (.int .i64 x.trust)∧w0.cell? ⟨b,f+k*4+2,none⟩=some (.bool x.frozen)∧w0.cell? ⟨b,f+k*4+3,none⟩=some (.slice ka x.known.length ma) from ⟨x0,x1,x2,x3⟩)
 have HCV:=hid (show ClV w0 N (.agg #[.string x.chain,.int .i64 x.trust,.bool x.frozen,.slice ka x.known.length ma]) x from ⟨_,rfl,hkv⟩)
 have HXW:=hid (HC.out x (List.mem_of_getElem? hx))
 have HL:=hid (Qfb hx)
 have hbl:b<w0.heap.size:=Nat.lt_of_lt_of_le hbN (Nat.le_trans hN hb0.size)
 have hN0:N≤w0.heap.size:=Nat.le_trans hN hb0.size
 clear hv hm hw hb0 hw0 gx cx hx hkv x0 x1 x2 x3
 go_enter Tryz.func61,Tryz.ntmps61
 go_upto_region 1 with fail
 rw [HW0.out]
 go_upto_region 3 with fail
 refine QiN s x k s.clients.length b f c1 ma ka o2 o3 o4 o5 o6 o7 c2 c3 c4 c5 c6 c7 hN0 HR0 hlt' hbl HCA HCV HXW HT _ (hid ?_)
 intro σ w1 hb1 ea
 have HB1:=hgo HB0 hb1
 rw [ea]
 clear hb1 ea
 cases hab:QM x s.time with
 | false =>
  have HL2:=hid (show YZ s (k:Int)=12 by rw [HL.out,hab];rfl)
  clear hab
  go_wp2
  go_ret
  exact ⟨by rw [HL2.out];first | done | rfl,HB1.out⟩
 | true =>
  have HL2:=hid (show YZ s (k:Int)=0 by rw [HL.out,hab];rfl)
  clear hab
  go_wp2
  go_ret
  exact ⟨by rw [HL2.out];first | done | rfl,HB1.out⟩
end Go.Proofs.YtbgdpfeobklnhaaGreatDoor
