/- app.obey and app.Do of any message. -/
import Derived.Test.YtnedafiokmjkkaaGreatDoorraApSett
namespace Go.Proofs.YtnedafiokmjkkaaGreatDoor
open Tryz
set_option maxRecDepth 1000000
set_option maxHeartbeats 8000000
open Go.RowKit
def Qcv (N:Nat) (w:World) (f:FuncId) (args:Array Value) (E:Int) (S:St):Prop:=∀ W,Bd w W→Calls prog f args W fun e w'=>Bd W w'∧∃ v',e=.returned (.tuple #[v',Bb E])∧Qp N W.heap.size w' v' S
def Qk8 (N:Nat) (w:World) (f:FuncId) (args:Array Value) (I E:Int) (S:St):Prop:=∀ W,Bd w W→Calls prog f args W fun e w'=>Bd W w'∧∃ v',e=.returned (.tuple #[v',Bb I,Bb E])∧Qp N W.heap.size w' v' S
def QvB (N:Nat) (w:World) (f:FuncId) (args:Array Value) (E:Int) (S:St) (P:Pk):Prop:=∀ W,Bd w W→Calls prog f args W fun e w'=>Bd W w'∧∃ v' pv,e=.returned (.tuple #[v',pv,Bb E])∧Qp N W.heap.size w' v' S∧JV N W.heap.size w' pv P
def QcJ (N:Nat) (w:World) (v mv:Value) (O:Out):Prop:=Calls prog 31 #[v,mv] w fun e w'=>Bd w w'∧∃ x,e=.returned x∧QqZ N w.heap.size w' x O
theorem JV.open {N base:Nat} {w:World} {v:Value} {p:Pk} (h:JV N base w v p):∃ od nd cd,v=.agg #[Bb p.src,Bb p.dst,Bb p.seq,.slice od nd cd,Bb p.tmo]:=by
 obtain ⟨od,cd,e,-⟩:=(QM.now h).open;exact ⟨od,_,cd,e⟩
structure J2 (w:World) (a b i j:Nat) (ta tb:TypeId) (ca cb:List Value) (τ:Nat→Option Value) (W:World):Prop where
 low:Below 0 w W
 same:∀ k,k<w.heap.size→k≠a→k≠b→W.heap[k]?=w.heap[k]?
 sa:Sp a ta ca.length W
 sb:Sp b tb cb.length W
 pa:∀ X,τ i=some X→Row W a ta ca
 pb:∀ X,τ j=some X→Row W b tb cb
section
variable {w:World} {a b i j:Nat} {ta tb:TypeId} {ca cb:List Value} {τ:Nat→Option Value} {W W':World}
theorem J2.skip (h:J2 w a b i j ta tb ca cb τ W) {k:Nat} (hi:i≠k) (hj:j≠k) (v:Value):J2 w a b i j ta tb ca cb (QE τ k v) W:=⟨h.low,h.same,h.sa,h.sb,by rw [show QE τ k v i=τ i from if_neg hi];exact h.pa,by rw [show QE τ k v j=τ j from if_neg hj];exact h.pb⟩
theorem J2.start (ha:Sp a ta ca.length w) (hb:Sp b tb cb.length w):J2 w a b i j ta tb ca cb (fun _=>none) w.drew:=⟨(Bi _ _).drew,fun _ _ _ _=>rfl,ha.low (Bi _ _).drew,hb.low (Bi _ _).drew,fun _ h=>(by cases h),fun _ h=>(by cases h)⟩
theorem J2.puta (h:J2 w a b i j ta tb ca cb τ W) (d:j≠i) (hab:a≠b) (O:JH a W W') (hr:Row W' a ta ca) (v:Value):J2 w a b i j ta tb ca cb (QE τ i v) W':=⟨h.low.trans O.below,fun k hk h1 h2=>(O.same k h1).trans (h.same k hk h1 h2),⟨_,hr,rfl⟩,h.sb.only O (by omega),fun _ _=>hr,by
 rw [show QE τ i v j=τ j from if_neg d]
 exact fun X hX=>(O.same b (by omega)).trans (h.pb X hX)⟩
theorem J2.putb (h:J2 w a b i j ta tb ca cb τ W) (e:i≠j) (d:a≠b) (O:JH b W W') (hr:Row W' b tb cb) (v:Value):J2 w a b i j ta tb ca cb (QE τ j v) W':=⟨h.low.trans O.below,fun k hk h1 h2=>(O.same k h2).trans (h.same k hk h1 h2),h.sa.only O d,⟨_,hr,rfl⟩,by
 rw [show QE τ j v i=τ i from if_neg e]
 exact fun X hX=>(O.same a d).trans (h.pa X hX),fun _ _=>hr⟩
theorem J2.row (h:J2 w a b i j ta tb ca cb τ W) {g:Nat} {ty:TypeId} {cs:List Value} (hr:Row w g ty cs) (h1:g≠a) (h2:g≠b):Row W g ty cs:=(h.same g hr.lt h1 h2).trans hr
theorem J2.below (h:J2 w a b i j ta tb ca cb τ W) {B:Nat} (h1:B≤a) (h2:B≤b) (hB:B≤w.heap.size):Below B w W:=⟨h.low.os,h.low.tape,h.low.output,h.low.size,fun k hk=>h.same k (by omega) (by omega) (by omega)⟩
end
theorem QsV (nm:ByteArray) (hh tt:Int) (o0 o1 o2 o3 o4 o5 o6:Option Addr) (n0 n1 n2 n3 n4 n5 n6 c0 c1 c2 c3 c4 c5 c6:Nat) (p0 p1 p2 p4:Int) (od:Option Addr) (nd cd:Nat) (e:Int) (w:World) :
  Calls prog 60 #[.agg #[.string nm,Bb hh,Bb tt,.slice o0 n0 c0,.slice o1 n1 c1,.slice o2 n2 c2,.slice o3 n3 c3,.slice o4 n4 c4,.slice o5 n5 c5,.slice o6 n6 c6],.agg #[Bb p0,Bb p1,Bb p2,.slice od nd cd,Bb p4],Bb e] w fun x w'=>x=.returned (.tuple #[.agg #[.string nm,Bb hh,Bb tt,.slice o0 n0 c0,.slice o1 n1 c1,.slice o2 n2 c2,.slice o3 n3 c3,.slice o4 n4 c4,.slice o5 n5 c5,.slice o6 n6 c6],.agg #[Bb e,Bb 0,Bb p0,Bb p1,Bb p2,.slice od nd cd,Bb p4]])∧Bd w w':=by
 go_in
 go_upto_region 1 with fail
 refine Qah ?_;intro w0 F0 hs;have HF:=hid F0;have HS:=hid hs;clear hs F0;apply Qa3 (J:=J2 w0 (w.heap.size+1+1) (w.heap.size+1+1+1) 4 5 28 58 [.string nm,Bb hh,Bb tt,.slice o0 n0 c0,.slice o1 n1 c1,.slice o2 n2 c2,.slice o3 n3 c3,.slice o4 n4 c4,.slice o5 n5 c5,.slice o6 n6 c6] [Bb e,Bb 0,Bb p0,Bb p1,Bb p2,.slice od nd cd,Bb p4]) (by kernel_rfl) (fun τ W hj=>And.intro (hj.row HF.out.r0 (by omega) (by omega)).k10 (hj.row HF.out.r1 (by omega) (by omega)).k5) (J2.start ⟨_,HF.out.r2,rfl⟩ ⟨_,HF.out.r3,rfl⟩) (by kernel_rfl)
 ·intro σ;simp [Qj];exact rfl
 iterate 4 (apply RJ.val (fun τ W h=>h.skip (by decide) (by decide) _) rfl;· intro σ W hc ⟨hd,hu⟩;simp at hd;go_simp;exact rfl)
 apply RJ.store rfl rfl Qa
 ·intro σ W τ hj hc ha hn ⟨hd,hu⟩
  have e0:σ 0=.agg #[.string nm,Bb hh,Bb tt,.slice o0 n0 c0,.slice o1 n1 c1,.slice o2 n2 c2,.slice o3 n3 c3,.slice o4 n4 c4,.slice o5 n5 c5,.slice o6 n6 c6]:=hd ⟨0,.data⟩ (by simp) (by decide)
  exact ⟨_,_,hj.sa,rfl,e0,rfl,by simp,fun W' g2 g3=>hj.puta (by decide) (by omega) g2 g3 _⟩
 apply RJ.store rfl rfl Qy
 ·intro σ W τ hj hc ha hn ⟨hd,hu⟩
  have e3:σ 3=.agg #[Bb e,Bb 0,Bb p0,Bb p1,Bb p2,.slice od nd cd,Bb p4]:=hd ⟨3,.data⟩ (by simp) (by decide)
  exact ⟨_,_,hj.sb,rfl,e3,rfl,by simp,fun W' g2 g3=>hj.putb (by decide) (by omega) g2 g3 _⟩
 intro σ W τ hτ hj _ _;have H2:=hid (hj.pa _ (hτ 4 (by simp)))
 have H3:=hid (hj.pb _ (hτ 5 (by simp)))
 have HB:=hid (HF.out.b.trans (hj.below (by omega) (by omega) HF.out.b.size))
 go_wp2;exact Qa5 results60 rfl H2.out Qa rfl H3.out Qy rfl ⟨rfl,HB.out⟩
def shC (m:Ms) (o:Nat→Option Addr) (c:Nat→Nat):List Value:=[Bb m.sh.height,Bb m.sh.prf.index,Bb m.sh.prf.size,.slice (o 14) m.sh.prf.key.length (c 14),.slice (o 15) m.sh.prf.val.length (c 15),.slice (o 16) m.sh.prf.path.length (c 16),.bool m.sh.gap.hasL,.bool m.sh.gap.hasR,Bb m.sh.gap.left.index,Bb m.sh.gap.left.size,.slice (o 17) m.sh.gap.left.key.length (c 17),.slice (o 18) m.sh.gap.left.val.length (c 18),.slice (o 19) m.sh.gap.left.path.length (c 19),Bb m.sh.gap.right.index,Bb m.sh.gap.right.size,.slice (o 20) m.sh.gap.right.key.length (c 20),.slice (o 21) m.sh.gap.right.val.length (c 21),.slice (o 22) m.sh.gap.right.path.length (c 22)]
theorem Ql5 (s:St) (m:Ms) (o:Nat→Option Addr) (c:Nat→Nat) (v:Value) (N:Nat) (w:World) (I E:Int) (S:St) (hv:StV w N v s) (hN:N≤w.heap.size) (hc:(m.kind=1∧Qk8 N w 47 #[v,.agg (msC m o c).toArray] I E S)∨(m.kind=4∧Qk8 N w 50 #[v,Bb m.client,Bb m.other] I E S)∨(m.kind=5∧Qk8 N w 51 #[v,Bb m.client,Bb m.other,Bb m.oend,.agg (shC m o c).toArray] I E S)∨(m.kind=8∧Qk8 N w 54 #[v,Bb m.fin,.bool m.ordered] I E S)∨(m.kind=9∧Qk8 N w 55 #[v,Bb m.fin,.bool m.ordered,Bb m.oend,.agg (shC m o c).toArray] I E S)):QcJ N w v (.agg (msC m o c).toArray) ⟨S,E,I,Pk.none⟩:=by
 obtain ⟨o1,c1,o2,c2,o3,c3,o4,c4,o5,c5,o6,c6,o7,c7,rfl,-⟩:=hv.open;clear hv;generalize s.clients.length=n1,s.conns.length=n2,s.chans.length=n3,s.sent.length=n4,s.got.length=n5,s.acks.length=n6,s.purses.length=n7 at *;unfold QcJ
 go_in
 go_upto_region 1 with fail
 refine Qah ?_;intro w0 F0 hs;have q0:w0.cell? ⟨w.heap.size+1,0,none⟩=some (Bb m.kind):=F0.r1.cell 0;have q7:w0.cell? ⟨w.heap.size+1,7,none⟩=some (Bb m.client):=F0.r1.cell 7;have A:w0.cell? ⟨w.heap.size+1,28,none⟩=some (Bb m.other):=F0.r1.cell 28;have C:w0.cell? ⟨w.heap.size+1,29,none⟩=some (Bb m.oend):=F0.r1.cell 29;have D:w0.cell? ⟨w.heap.size+1,30,none⟩=some (Bb m.fin):=F0.r1.cell 30;have G:w0.cell? ⟨w.heap.size+1,31,none⟩=some (.bool m.ordered):=F0.r1.cell 31;clear hs
 rcases hc with ⟨hk,hc⟩ | ⟨hk,hc⟩ | ⟨hk,hc⟩ | ⟨hk,hc⟩ | ⟨hk,hc⟩
 all_goals
  rw [hk] at q0;have HC:=hid hc;clear hc hk
  go_wp2_with (first | refine F0.load 0 rfl Qa ?_ | refine F0.load 1 rfl Y6 ?_ | refine F0.loadMid 1 32 (shC m o c) rfl rfl rfl rfl rfl QN ?_)
  refine (HC.out _ F0.b).mono ?_;rintro e w1 ⟨j,v',rfl,hh⟩;have F1:=F0.go j;have HH:=hid hh;have l2:=F0.r2.lt;have l3:=F0.r3.lt;have q:=hid F0.b.size;obtain ⟨a1,b1,d1,a2,b2,d2,a3,b3,d3,a4,b4,d4,a5,b5,d5,a6,b6,d6,a7,b7,d7,rfl⟩:=hh.open;clear j hh HC F0 q0 q7 A C D G
  go_wp2_with fail
  refine (Qr8 _ _ _ _ _ _ _ _ _ _ _ _ _ _ _ _ _ _ _ _ _ _ _ _ _ _ _).mono ?_;rintro e w2 ⟨rfl,d⟩;have F2:=F1.go d;have z:=hid (HH.out.below d);clear d F1 HH
  go_wp2_with (first | (refine F2.store 2 rfl Qa (by simp) ?_;intro w3 F3 O3) | (refine F3.store 3 rfl Qy (by simp) ?_;intro w4 F4 O4))
  refine Qa5 results31 rfl F4.r2 Qa rfl F4.r3 Qy rfl ⟨F4.b,_,rfl,_,none,0,0,rfl,?_,Jp _ _ _⟩;exact (((z.out.only O3 (by omega) l2).only O4 (by omega) l3)).lower q.out
theorem Qva (s:St) (m:Ms) (o:Nat→Option Addr) (c:Nat→Nat) (v:Value) (N:Nat) (w:World) (E:Int) (S:St) (P:Pk) (hk:m.kind=14) (hv:StV w N v s) (hN:N≤w.heap.size) (hc:QvB N w 61 #[v,.agg (msC m o c).toArray] E S P):QcJ N w v (.agg (msC m o c).toArray) ⟨S,E,0,P⟩:=by
 obtain ⟨o1,c1,o2,c2,o3,c3,o4,c4,o5,c5,o6,c6,o7,c7,rfl,-⟩:=hv.open;have HC:=hid hc;clear hc hv;generalize s.clients.length=n1,s.conns.length=n2,s.chans.length=n3,s.sent.length=n4,s.got.length=n5,s.acks.length=n6,s.purses.length=n7 at *;unfold QcJ
 go_in
 go_upto_region 1 with fail
 refine Qah ?_;intro w0 F0 hs;have q0:w0.cell? ⟨w.heap.size+1,0,none⟩=some (Bb 14):=hk ▸ F0.r1.cell 0;clear hs hk
 go_wp2_with (first | refine F0.load 0 rfl Qa ?_ | refine F0.load 1 rfl Y6 ?_)
 refine (HC.out _ F0.b).mono ?_;rintro e w1 ⟨q,v',pv,rfl,hh,hp⟩;have F1:=F0.go q;have HH:=hid hh;have l2:=F0.r2.lt;have l3:=F0.r3.lt;have j:=hid F0.b.size;obtain ⟨a1,b1,d1,a2,b2,d2,a3,b3,d3,a4,b4,d4,a5,b5,d5,a6,b6,d6,a7,b7,d7,rfl⟩:=hh.open;have HP:=hid hp;obtain ⟨od,nd,cd,rfl⟩:=hp.open;clear q hh HC F0 q0 hp
 go_wp2_with fail
 refine (QsV _ _ _ _ _ _ _ _ _ _ _ _ _ _ _ _ _ _ _ _ _ _ _ _ _ _ _ _ _ _ _ _ _).mono ?_;rintro e w2 ⟨rfl,d⟩;have F2:=F1.go d;have z:=hid (HH.out.below d);have A:=hid (HP.out.below d);clear d F1 HH HP
 go_wp2_with (first | (refine F2.store 2 rfl Qa (by simp) ?_;intro w3 F3 O3) | (refine F3.store 3 rfl Qy (by simp) ?_;intro w4 F4 O4))
 refine Qa5 results31 rfl F4.r2 Qa rfl F4.r3 Qy rfl ⟨F4.b,_,rfl,_,od,nd,cd,rfl,?_,?_⟩
 ·exact (((z.out.only O3 (by omega) l2).only O4 (by omega) l3)).lower j.out
 ·exact (((A.out.only O3 (by omega) l2).only O4 (by omega) l3)).lower j.out
theorem QvQ (s:St) (m:Ms) (o:Nat→Option Addr) (c:Nat→Nat) (v:Value) (N:Nat) (w:World) (hk:m.kind<1∨18<m.kind) (hv:StV w N v s) (hN:N≤w.heap.size):QcJ N w v (.agg (msC m o c).toArray) (YR s 1):=by
 have HV:=hid (fun W (hb:Bd w W)=>show Qp N W.heap.size W v s from ⟨fun b hF=>hF.2,fun w2 d S=>(((hv.below (hb.mono hN)).below (show Below N W w2 from ⟨d.os,d.tape,d.output,d.size,fun b j=>S b ⟨.inl j,Br j (Bh hN hb.size)⟩⟩)).mono (Bh (Bh hN hb.size) d.size))⟩)
 obtain ⟨o1,c1,o2,c2,o3,c3,o4,c4,o5,c5,o6,c6,o7,c7,rfl,-⟩:=hv.open;clear hv;generalize s.clients.length=n1,s.conns.length=n2,s.chans.length=n3,s.sent.length=n4,s.got.length=n5,s.acks.length=n6,s.purses.length=n7 at *;unfold QcJ
 go_in
 go_upto_region 1 with fail
 refine Qah ?_;intro w0 F0 hs;have q0:w0.cell? ⟨w.heap.size+1,0,none⟩=some (Bb m.kind):=F0.r1.cell 0;have e1:(m.kind == 1)=false:=by simp;omega
 have e2:(m.kind == 2)=false:=by simp;omega
 have e3:(m.kind == 3)=false:=by simp;omega
 have e4:(m.kind == 4)=false:=by simp;omega
 have e5:(m.kind == 5)=false:=by simp;omega
 have e6:(m.kind == 6)=false:=by simp;omega
 have e7:(m.kind == 7)=false:=by simp;omega
 have e8:(m.kind == 8)=false:=by simp;omega
 have e9:(m.kind == 9)=false:=by simp;omega
 have A:(m.kind == 10)=false:=by simp;omega
 have C:(m.kind == 11)=false:=by simp;omega
 have D:(m.kind == 12)=false:=by simp;omega
 have E:(m.kind == 13)=false:=by simp;omega
 have G:(m.kind == 14)=false:=by simp;omega
 have I:(m.kind == 15)=false:=by simp;omega
 have L:(m.kind == 16)=false:=by simp;omega
 have M:(m.kind == 17)=false:=by simp;omega
 have O:(m.kind == 18)=false:=by simp;omega
 clear hs hk
 go_wp2_with (refine F0.load 0 rfl Qa ?_)
 refine (QcR _ _ _ _ _ _ _ _ _ _ _ _ _ _ _ _ _ _ _ _ _ _ _ _ _ _).mono ?_;rintro e w2 ⟨rfl,d⟩;have F2:=F0.go d;have l2:=F0.r2.lt;have l3:=F0.r3.lt;have q:=hid F0.b.size;have z:=hid ((HV.out _ F0.b).below d);clear d F0 q0 e1 e2 e3 e4 e5 e6 e7 e8 e9 A C D E G I L M O
 go_wp2_with (first | (refine F2.store 2 rfl Qa (by simp) ?_;intro w3 F3 O3) | (refine F3.store 3 rfl Qy (by simp) ?_;intro w4 F4 O4))
 refine Qa5 results31 rfl F4.r2 Qa rfl F4.r3 Qy rfl ⟨F4.b,_,rfl,_,none,0,0,rfl,?_,Jp _ _ _⟩;exact (((z.out.only O3 (by omega) l2).only O4 (by omega) l3)).lower q.out
theorem Qcy (s:St) (m:Ms) (o:Nat→Option Addr) (c:Nat→Nat) (v:Value) (N:Nat) (w:World) (E:Int) (S:St) (hv:StV w N v s) (hN:N≤w.heap.size) (hc:(m.kind=2∧Qcv N w 49 #[v,.agg (msC m o c).toArray] E S)∨(m.kind=3∧Qcv N w 49 #[v,.agg (msC m o c).toArray] E S)∨(m.kind=6∧Qcv N w 52 #[v,Bb m.fin,Bb m.oend,.agg (shC m o c).toArray] E S)∨(m.kind=7∧Qcv N w 53 #[v,Bb m.fin,.agg (shC m o c).toArray] E S)∨(m.kind=10∧Qcv N w 56 #[v,Bb m.fin,Bb m.oend,.agg (shC m o c).toArray] E S)∨(m.kind=11∧Qcv N w 57 #[v,Bb m.fin,.agg (shC m o c).toArray] E S)∨(m.kind=12∧Qcv N w 58 #[v,Bb m.fin] E S)∨(m.kind=13∧Qcv N w 59 #[v,Bb m.fin,.agg (shC m o c).toArray] E S)∨(m.kind=15∧Qcv N w 62 #[v,.agg (msC m o c).toArray] E S)∨(m.kind=16∧Qcv N w 63 #[v,.agg (msC m o c).toArray] E S)∨(m.kind=17∧Qcv N w 64 #[v,.agg (msC m o c).toArray] E S)∨(m.kind=18∧Qcv N w 65 #[v,.agg (msC m o c).toArray] E S)):QcJ N w v (.agg (msC m o c).toArray) ⟨S,E,0,Pk.none⟩:=by
 obtain ⟨o1,c1,o2,c2,o3,c3,o4,c4,o5,c5,o6,c6,o7,c7,rfl,-⟩:=hv.open;clear hv;generalize s.clients.length=n1,s.conns.length=n2,s.chans.length=n3,s.sent.length=n4,s.got.length=n5,s.acks.length=n6,s.purses.length=n7 at *;unfold QcJ
 go_in
 go_upto_region 1 with fail
 refine Qah ?_;intro w0 F0 hs;have q0:w0.cell? ⟨w.heap.size+1,0,none⟩=some (Bb m.kind):=F0.r1.cell 0;have q7:w0.cell? ⟨w.heap.size+1,7,none⟩=some (Bb m.client):=F0.r1.cell 7;have A:w0.cell? ⟨w.heap.size+1,28,none⟩=some (Bb m.other):=F0.r1.cell 28;have C:w0.cell? ⟨w.heap.size+1,29,none⟩=some (Bb m.oend):=F0.r1.cell 29;have D:w0.cell? ⟨w.heap.size+1,30,none⟩=some (Bb m.fin):=F0.r1.cell 30;have G:w0.cell? ⟨w.heap.size+1,31,none⟩=some (.bool m.ordered):=F0.r1.cell 31;clear hs
 rcases hc with ⟨hk,hc⟩ | ⟨hk,hc⟩ | ⟨hk,hc⟩ | ⟨hk,hc⟩ | ⟨hk,hc⟩ | ⟨hk,hc⟩ | ⟨hk,hc⟩ | ⟨hk,hc⟩ | ⟨hk,hc⟩ | ⟨hk,hc⟩ | ⟨hk,hc⟩ | ⟨hk,hc⟩
 all_goals
  rw [hk] at q0;have HC:=hid hc;clear hc hk
  go_wp2_with (first | refine F0.load 0 rfl Qa ?_ | refine F0.load 1 rfl Y6 ?_ | refine F0.loadMid 1 32 (shC m o c) rfl rfl rfl rfl rfl QN ?_)
  refine (HC.out _ F0.b).mono ?_;rintro e w1 ⟨j,v',rfl,hh⟩;have F1:=F0.go j;have HH:=hid hh;have l2:=F0.r2.lt;have l3:=F0.r3.lt;have q:=hid F0.b.size;obtain ⟨a1,b1,d1,a2,b2,d2,a3,b3,d3,a4,b4,d4,a5,b5,d5,a6,b6,d6,a7,b7,d7,rfl⟩:=hh.open;clear j hh HC F0 q0 q7 A C D G
  go_wp2_with fail
  refine (QcR _ _ _ _ _ _ _ _ _ _ _ _ _ _ _ _ _ _ _ _ _ _ _ _ _ _).mono ?_;rintro e w2 ⟨rfl,d⟩;have F2:=F1.go d;have z:=hid (HH.out.below d);clear d F1 HH
  go_wp2_with (first | (refine F2.store 2 rfl Qa (by simp) ?_;intro w3 F3 O3) | (refine F3.store 3 rfl Qy (by simp) ?_;intro w4 F4 O4))
  refine Qa5 results31 rfl F4.r2 Qa rfl F4.r3 Qy rfl ⟨F4.b,_,rfl,_,none,0,0,rfl,?_,Jp _ _ _⟩;exact (((z.out.only O3 (by omega) l2).only O4 (by omega) l3)).lower q.out
theorem YP.held {w:World} {base:Nat} {v:Value} {l:List Kn} (h:YP w base v l):QM (fun b=>base≤b∧b<w.heap.size) w (fun w2=>Jh w2 w2.heap.size v l):=by
 obtain ⟨ps,h,rfl⟩:=h;exact h.held
theorem YP.shape {w:World} {base:Nat} {v:Value} {l:List Kn} (h:YP w base v l):∃ o n c,v=.slice o n c:=by
 obtain ⟨ps,h,-⟩:=h;obtain ⟨o,c,e,-⟩:=h.shape;exact ⟨o,_,c,e⟩
theorem QfY {N B base m:Nat} {w:World} {s:St} {l:List Cl} {rs:List (List Value)} {v1 v2 v3 v4 v5 v6 v7:Value} (h0:rs.length=l.length) (h:Qf 78 4 w base v1 rs) (hB:B≤base) (hm:B≤m) (he:∀ (i:Nat) r x,rs[i]?=some r→l[i]?=some x→QM (fun b=>(b<N∨B≤b)∧b<w.heap.size) w (fun w2=>ClR w2 w2.heap.size r x)) (hr:QgL N base m w s v2 v3 v4 v5 v6 v7) :
  Qp N B w (.agg #[.string s.name,Bb s.height,Bb s.time,v1,v2,v3,v4,v5,v6,v7]) { s with clients:=l }:=by
 refine ⟨fun b hF=>hF.2,fun w2 hb hk=>?_⟩
 have hq:=(Qu.on hr hb fun b d hZ=>hk b ⟨hZ.imp id (Bh hm),d⟩).mem
 exact ⟨v1,v2,v3,v4,v5,v6,v7,rfl,⟨rs,h0,(Qf.keep h fun g hg=>hk g ⟨.inr (Bh hB (Qf.own h g hg).1),(Qf.own h g hg).2⟩).recs,fun i r x hr hx=>(he i r x hr hx).2 w2 hb hk⟩,hq.conns,hq.chans,hq.sent,hq.got,hq.acks,hq.purses⟩
theorem QgL.on {N base m:Nat} {w w':World} {s:St} {v2 v3 v4 v5 v6 v7:Value} (h:QgL N base m w s v2 v3 v4 v5 v6 v7) (hb:Below 0 w w') (hk:∀ b,b<w.heap.size→b<N∨m≤b→w'.heap[b]?=w.heap[b]?):QgL N base m w' s v2 v3 v4 v5 v6 v7:=Qu.on h hb hk
theorem Qrq (s:St) (v:Value) (N:Nat) (w:World) (hv:StV w N v s) (hN:N≤w.heap.size) (d:s.fits) (b:few s):Calls prog 32 #[v] w fun e w'=>Bd w w'∧∃ p1 d1 p2 d2 p3 d3 p4 d4 p5 d5 p6 d6 p7 d7 m,e=.returned (.agg #[.string s.name,Bb s.height,Bb s.time,.slice p1 s.clients.length d1,.slice p2 s.conns.length d2,.slice p3 s.chans.length d3,.slice p4 s.sent.length d4,.slice p5 s.got.length d5,.slice p6 s.acks.length d6,.slice p7 s.purses.length d7])∧(w.heap.size≤m∧m≤w'.heap.size)∧QcH N w.heap.size m w' (.slice p1 s.clients.length d1) s.clients∧QgL N w.heap.size m w' s (.slice p2 s.conns.length d2) (.slice p3 s.chans.length d3) (.slice p4 s.sent.length d4) (.slice p5 s.got.length d5) (.slice p6 s.acks.length d6) (.slice p7 s.purses.length d7):=by
 obtain ⟨o1,c1,o2,c2,o3,c3,o4,c4,o5,c5,o6,c6,o7,c7,rfl,hm⟩:=hv.open;exact (QuK s o1 o2 o3 o4 o5 o6 o7 c1 c2 c3 c4 c5 c6 c7 N N w hm ⟨hm.clients,hm.conns,hm.chans,hm.sent,hm.got,hm.acks,Qt.nil _ _ _ _⟩ (by omega) hN d b).mono fun _ _ ⟨hb,p1,d1,p2,d2,p3,d3,p4,d4,p5,d5,p6,d6,p7,d7,e,_,m,h⟩=>⟨hb,p1,d1,p2,d2,p3,d3,p4,d4,p5,d5,p6,d6,p7,d7,m,e,h⟩
theorem Qsh {ch:ByteArray} {tr:Int} {k:Kn} (h:Qz (YO ch tr k)=0):QhM ch tr k=YO ch tr k:=by unfold QhM;rw [if_pos h]
theorem QiJ (s:St) (m:Ms) (o:Nat→Option Addr) (c:Nat→Nat) (v:Value) (N:Nat) (w:World) (hv:StV w N v s) (hm:MsM w N m o c) (hN:N≤w.heap.size) (G:s.fits) (S:m.fits) (hw:Qd s=0) :
  Calls prog 47 #[v,.agg (msC m o c).toArray] w fun e w'=>Bd w w'∧∃ v',e=.returned (.tuple #[v',Bb (Qsg s m).num,Bb (QkE s m)])∧Qp N w.heap.size w' v' (Qu9 s m):=by
 have aK:=hid (fun W (hb:Bd w W)=>Qu2 m.chain m.trust m.known _ N W (hm.known.below (hb.mono hN)) (Bh hN hb.size) S.1 S.2.1)
 have aF:=hid (fun W (hb:Bd w W)=>Qrq s v N W (hv.below (hb.mono hN)) (Bh hN hb.size) G (QF hw))
 have HE:=hid (show QkE s m=if 4≤s.clients.length then 5 else Qz (YO m.chain m.trust m.known) from rfl)
 have z:=hid (show Qu9 s m=if QkE s m=0 then { s with clients:=s.clients ++ [YO m.chain m.trust m.known] } else St.none from rfl)
 have j:=hid (show (Qsg s m).num=if QkE s m=0 then (s.clients.length:Int) else 0 from rfl)
 have hlc:s.clients.length≤100:=(QF hw).1;obtain ⟨o1,c1,o2,c2,o3,c3,o4,c4,o5,c5,o6,c6,o7,c7,rfl,-⟩:=hv.open;clear hv hm G S hw;generalize s.purses.length=n7,s.conns.length=n2,s.chans.length=n3,s.sent.length=n4,s.got.length=n5,s.acks.length=n6 at *
 go_in
 go_upto_region 1 with fail
 refine JP ?_;intro w0 F0 hs;clear hs;have k3:=F0.r0.k10.2.2.2.1
 by_cases h4:4≤s.clients.length
 ·have e4:decide ((4:Int)≤(s.clients.length:Int))=true:=by simp;omega
  replace HE:=hid (HE.out.trans (if_pos h4));rw [HE.out] at z j;generalize s.clients.length=n1 at *;clear h4
  go_wp2_with (refine F0.store 2 rfl Qa (by simp) ?_;intro w5 F5 O5)
  refine J9 results47 rfl F5.r2 Qa rfl ⟨F5.b,_,by rw [HE.out,j.out];rfl,?_⟩
  rw [z.out];exact Qg _ _ _
 ·have e4:decide ((4:Int)≤(s.clients.length:Int))=false:=by simp;omega
  replace HE:=hid (HE.out.trans (if_neg h4));clear h4;have q1:w0.cell? ⟨w.heap.size+1,1,none⟩=some (.string m.chain):=F0.r1.cell 1;have q2:w0.cell? ⟨w.heap.size+1,2,none⟩=some (Bb m.trust):=F0.r1.cell 2
  go_wp2_with (refine F0.loadMid 1 3 [Bb m.known.height,Bb m.known.time,.slice (o 0) m.known.root.length (c 0),.slice (o 1) m.known.next.length (c 1)] rfl rfl rfl rfl rfl Y5 ?_)
  refine (aK.out _ F0.b).mono ?_;rintro e w1 ⟨M,ko,kn,kc,rfl,hk⟩;have F1:=F0.go M;have HK:=hid hk.held;have l0:=F0.r0.lt;have l2:=F0.r2.lt;have aC:=hid F0.b.size;have aS:=hid M.size;clear M hk aK F0 q1 q2 k3
  by_cases hz:Qz (YO m.chain m.trust m.known)=0
  ·rw [Qsh hz] at HK ⊢
   rw [hz] at HE ⊢;rw [if_pos HE.out] at z j;clear hz;generalize YO m.chain m.trust m.known=x at *
   go_upto_region 5 with fail
   refine F1.box ?_;intro w2 F2 aA A;have aH:=hid (HK.out.below A);have aT:=hid (Bh aS.out A.size);have aB:=hid A.size;clear aA A F1 HK
   go_wp2_with (refine F2.load 0 rfl Qa ?_)
   refine (aF.out _ F2.b).mono ?_;rintro e w3 ⟨E,p1,d1,p2,d2,p3,d3,p4,d4,p5,d5,p6,d6,p7,d7,mm,rfl,hmm,aN,aR⟩;have F3:=F2.go E;have aI:=hid (aH.out.below E);have aE:=hid aN;have aM:=hid aR;have hb3s:=E.size;have L2:=hid F2.lts;clear E aN aR aH aF
   go_upto_region 8 with (refine F3.store 0 rfl Qa (by simp) ?_;intro w4 F4 O4)
   have hB2:=aT.out;have aJ:=hid (aI.out.on O4.below fun b hF=>O4.same b (by omega))
   have aD:=hid (aE.out.on O4.below fun b C hF=>O4.same b (by omega))
   have aL:=hid (aM.out.on O4.below fun b C hF=>O4.same b (by omega))
   have L:=O4.size;have aV:=hid L;clear aI aE aM O4 F3 F2 L;have k3:=F4.r0.k10.2.2.2.1;obtain ⟨a0,a1,a2,a3⟩:=F4.r3.k4
   go_wp2_with (at_builtin;refine Hid.out ?_)
   refine hid ?_;refine Qu0 ?_;intro w5 aQ d;have aY:=aV.out;have aZ:=d.size;obtain ⟨rs,g1,g2,g3,g4⟩:=aD.out.on (d.mono (BH _)) fun b C _=>d.block b (by omega)
   have Y:rs.length=s.clients.length:=g1
   refine ZK QsG rfl _ _ rfl w2.heap.size _ rs rfl g2 _ _ [.string x.chain,Bb x.trust,.bool x.frozen,.slice ko kn kc] rfl (QgF aQ) (fun q hq=>by obtain rfl:=BO.1 hq;exact ⟨rfl,fun y hy=>by simp at hy;rcases hy with rfl | rfl | rfl | rfl <;> rfl⟩) (by omega) (by omega) ?_
   intro g da w6 I O D aP;have F6:=(F4.go d).past O (by have:=aC.out;omega) L2.out
   have T:∀ k,(Value.slice p1 s.clients.length d1).ownBlock=some k→w2.heap.size≤k∧k<mm:=fun k e=>⟨(Qf.own g2 k e).1,g3 k e⟩
   have aG:=hid (show Qp N w0.heap.size w6 (.agg #[.string s.name,Bb s.height,Bb s.time,.slice (some ⟨g,0,none⟩) (rs.length+1) da,.slice p2 n2 d2,.slice p3 n3 d3,.slice p4 n4 d4,.slice p5 n5 d5,.slice p6 n6 d6,.slice p7 n7 d7]) { s with clients:=s.clients ++ [x] } from
    QfY (base:=w2.heap.size) (m:=mm) (by simp [Y]) I (by omega) (by omega) (fun i r y hr hy=>by
     by_cases hi:i<rs.length
     ·rw [Cw hi] at hr
      rw [Cw (by omega)] at hy
      exact ((g4 i r y hr hy).grown D (fun k e hF=>hF.1 e.symm)).wide (fun b hF=>⟨hF.2.1.imp id (fun h=>by omega),by have:=O.size;omega⟩) (fun b hF=>hF.2)
     ·have hil:i<rs.length+1:=by have:=(Bm.1 hr).1;simpa using this
      obtain rfl:i=rs.length:=by omega
      obtain rfl:_=r:=by simpa using hr
      rw [Y] at hy;obtain rfl:x=y:=by simpa using hy
      have aO:=(aJ.out.below d).grown D (fun k e hF=>by have:=T k e;have:=aB.out;omega)
      exact ⟨fun b hF=>hF.2,fun a4 aW aX=>⟨_,rfl,aO.2 a4 aW fun b hF=>aX b ⟨.inr hF.1,aO.1 b hF⟩⟩⟩)
     ((aL.out.on (d.mono (BH _)) fun b C _=>d.block b C).on (Qb9 D) fun b C hF=>D.block b C fun e=>by have:=T b e.symm;omega))
   generalize rs.length+1=nl at *;clear I O D aP aQ d g1 g2 g3 g4 T aJ aD aL a0 a1 a2 a3 k3 aY aZ Y F4;have k3:=F6.r0.k10.2.2.2.1;have z3:=F6.r0.frozen 3
   go_upto_region 9 with fail
   refine F6.cell 0 rfl ?_;intro w7 F7 O7;have aU:=hid (aG.out.only O7 hN l0);clear k3 z3 O7 aG F6
   go_wp2_with (first | refine F7.load 0 rfl Qa ?_ | (refine F7.store 2 rfl Qa (by simp) ?_;intro w8 F8 O8))
   refine J9 results47 rfl F8.r2 Qa rfl ⟨F8.b,_,by rw [HE.out,j.out];rfl,?_⟩
   rw [z.out];exact (aU.out.only O8 (by omega) l2).lower aC.out
  ·have hzb:(Qz (YO m.chain m.trust m.known) != 0)=true:=by simpa using hz
   rw [if_neg (by rw [HE.out];exact hz)] at z j
   clear hz HK;generalize QhM m.chain m.trust m.known=x at *;generalize Qz (YO m.chain m.trust m.known)=ze at *
   go_upto_region 5 with fail
   refine F1.box ?_;intro w2 F2 aA A;clear aA A F1
   go_wp2_with (refine F2.store 2 rfl Qa (by simp) ?_;intro w5 F5 O5)
   refine J9 results47 rfl F5.r2 Qa rfl ⟨F5.b,_,by rw [HE.out,j.out];rfl,?_⟩
   rw [z.out];exact Qg _ _ _
theorem Qs9 (x:Cl) (m:Ms) (o:Nat→Option Addr) (c:Nat→Nat) (cv:Value) (N:Nat) (w:World) (now:Int) (hv:ClV w N cv x) (hm:MsM w N m o c) (hN:N≤w.heap.size) (j:x.fits) (z:m.fits) (q:Qi w) :
  Calls prog 77 #[cv,.agg (msC m o c).toArray,Bb now] w fun e w'=>Bd w w'∧∃ o n k,e=.returned (.tuple #[.agg #[.string (QbW x m now).chain,Bb (QbW x m now).trust,.bool (QbW x m now).frozen,.slice o n k],Bb (Qfi x m now)])∧YP w' w.heap.size (.slice o n k) (QbW x m now).known:=by
 have D:=hid (fun W (hb:Bd w W)=>Qpq x m.upd now cv _ N W (q.past hb) (Bh hN hb.size) (hv.below (hb.mono hN)) (hm.upd.below (hb.mono hN)) j z.2.2.1)
 have C:=hid (fun W (hb:Bd w W)=>Qrh x m.upd m.sec now cv _ _ N W (q.past hb) (Bh hN hb.size) (hv.below (hb.mono hN)) (hm.upd.below (hb.mono hN)) (hm.sec.below (hb.mono hN)) j z.2.2.1 z.2.2.2.1)
 have HE:=hid (show Qfi x m now=if m.kind=3 then Qd6 x m.upd m.sec now else Zh x m.upd now from rfl)
 have HC:=hid (show QbW x m now=if m.kind=3 then Qb1 x m.upd m.sec now else YK x m.upd now from rfl)
 obtain ⟨kv,rfl,hk⟩:=hv;obtain ⟨ok,ck,rfl,-⟩:=hk.shape;clear hk hm j z q;generalize x.known.length=kl at *
 go_in
 go_upto_region 1 with fail
 refine JP ?_;intro w0 F0 hs;clear hs;have q0:w0.cell? ⟨w.heap.size+1,0,none⟩=some (Bb m.kind):=F0.r1.cell 0
 by_cases hz:m.kind=3
 ·have e0:(m.kind == 3)=true:=by simpa using hz
  rw [if_pos hz] at HE HC;clear hz
  go_wp2_with (first | refine F0.load 0 rfl Qm ?_ | refine F0.loadMid 1 8 [Bb m.upd.frm,.string m.upd.sg.hd.chain,Bb m.upd.sg.hd.height,Bb m.upd.sg.hd.time,.slice (o 2) m.upd.sg.hd.root.length (c 2),.slice (o 3) m.upd.sg.hd.vals.length (c 3),.slice (o 4) m.upd.sg.hd.next.length (c 4),.slice (o 5) m.upd.sg.vals.length (c 5),.slice (o 6) m.upd.sg.votes.length (c 6),.slice (o 7) m.upd.trusted.length (c 7)] rfl rfl rfl rfl rfl Zu ?_ | refine F0.loadMid 1 18 [Bb m.sec.frm,.string m.sec.sg.hd.chain,Bb m.sec.sg.hd.height,Bb m.sec.sg.hd.time,.slice (o 8) m.sec.sg.hd.root.length (c 8),.slice (o 9) m.sec.sg.hd.vals.length (c 9),.slice (o 10) m.sec.sg.hd.next.length (c 10),.slice (o 11) m.sec.sg.vals.length (c 11),.slice (o 12) m.sec.sg.votes.length (c 12),.slice (o 13) m.sec.trusted.length (c 13)] rfl rfl rfl rfl rfl Zu ?_)
  refine (C.out _ F0.b).mono ?_;rintro e w1 ⟨d,ko,kn,kc,rfl,hk⟩;have F1:=F0.go d;have HK:=hid hk;have l2:=F0.r2.lt;have A:=hid F0.b.size;clear d hk F0 q0;generalize Qb1 x m.upd m.sec now=y at *;generalize Qd6 x m.upd m.sec now=ye at *
  go_wp2_with (refine F1.store 2 rfl Qm (by simp) ?_;intro w5 F5 O5)
  refine Ql results77 rfl F5.r2 Qm rfl ⟨F5.b,ko,kn,kc,by rw [HE.out,HC.out];rfl,?_⟩
  rw [HC.out];exact (HK.out.keep fun b hF=>O5.same b (by omega)).mono A.out
 ·have e0:(m.kind == 3)=false:=by simpa using hz
  rw [if_neg hz] at HE HC;clear hz
  go_wp2_with (first | refine F0.load 0 rfl Qm ?_ | refine F0.loadMid 1 8 [Bb m.upd.frm,.string m.upd.sg.hd.chain,Bb m.upd.sg.hd.height,Bb m.upd.sg.hd.time,.slice (o 2) m.upd.sg.hd.root.length (c 2),.slice (o 3) m.upd.sg.hd.vals.length (c 3),.slice (o 4) m.upd.sg.hd.next.length (c 4),.slice (o 5) m.upd.sg.vals.length (c 5),.slice (o 6) m.upd.sg.votes.length (c 6),.slice (o 7) m.upd.trusted.length (c 7)] rfl rfl rfl rfl rfl Zu ?_)
  refine (D.out _ F0.b).mono ?_;rintro e w1 ⟨d,ko,kn,kc,rfl,hk⟩;have F1:=F0.go d;have HK:=hid hk;have l2:=F0.r2.lt;have A:=hid F0.b.size;clear d hk F0 q0;generalize YK x m.upd now=y at *;generalize Zh x m.upd now=ye at *
  go_wp2_with (refine F1.store 2 rfl Qm (by simp) ?_;intro w5 F5 O5)
  refine Ql results77 rfl F5.r2 Qm rfl ⟨F5.b,ko,kn,kc,by rw [HE.out,HC.out];rfl,?_⟩
  rw [HC.out];exact (HK.out.keep fun b hF=>O5.same b (by omega)).mono A.out
theorem Qjl {o:Oper} {ev:Operand→Value} {W:World} {g:Nat} {ty:TypeId} {x:Operand} {cs:List Value} (ho:o.op=.load ty x) (hx:ev x=.pointer (some ⟨g,0,none⟩)) (hr:Row W g ty cs) (hs:Qw ty cs.length):(execOp ev o).run prog W=.ok (.value (.agg cs.toArray)) W:=by
 unfold execOp;simp only [ho,hx,Instr.loadAt,Instr.sureAddr,Cz,CG,CH,Ys hr hs]
structure TJ (w:World) (y:Cl) (ye:Int) (τ:Nat→Option Value) (W:World):Prop where
 low:Bd w W
 ans:∀ X,τ 9=some X→∃ o n k,X=.tuple #[.agg #[.string y.chain,Bb y.trust,.bool y.frozen,.slice o n k],Bb ye]∧YP W w.heap.size (.slice o n k) y.known
 l10:∀ X,τ 10=some X→τ 9=some X
 l11:∀ X,τ 11=some X→∃ b,τ 9=some (.tuple #[X,b])
 l12:∀ X,τ 12=some X→X=Bb ye
 new:∀ X,τ 13=some X→∃ g,X=.pointer (some ⟨g,0,none⟩)∧w.heap.size≤g∧Sp g 78 4 W
 put:∀ X,τ 14=some X→∃ g o n k,τ 13=some (.pointer (some ⟨g,0,none⟩))∧τ 9=some (.tuple #[.agg #[.string y.chain,Bb y.trust,.bool y.frozen,.slice o n k],Bb ye])∧Row W g 78 [.string y.chain,Bb y.trust,.bool y.frozen,.slice o n k]
 l15:∀ X,τ 15=some X→X=Bb ye
theorem TJ.skip {w:World} {y:Cl} {ye:Int} {τ:Nat→Option Value} {W:World} (h:TJ w y ye τ W) {k:Nat} (hk:k<9) (v:Value):TJ w y ye (QE τ k v) W:=by
 have e:∀ i,9≤i→QE τ k v i=τ i:=fun i hi=>if_neg (by omega)
 refine ⟨h.low,?_,?_,?_,?_,?_,?_,?_⟩
 ·rw [e 9 (by omega)];exact h.ans
 ·rw [e 9 (by omega),e 10 (by omega)];exact h.l10
 ·rw [e 9 (by omega),e 11 (by omega)];exact h.l11
 ·rw [e 12 (by omega)];exact h.l12
 ·rw [e 13 (by omega)];exact h.new
 ·rw [e 9 (by omega),e 13 (by omega),e 14 (by omega)];exact h.put
 ·rw [e 15 (by omega)];exact h.l15
theorem YP.other {w w':World} {base g:Nat} {t:TypeId} {v:Value} {l:List Kn} {cs:List Value} (h:YP w base v l) (hr:Row w g t cs) (ht:t≠31) (b:t≠5) (ho:∀ j,j≠g→w'.heap[j]?=w.heap[j]?):YP w' base v l:=by
 obtain ⟨ps,h,e⟩:=h;exact ⟨ps,h.other hr ht b ho,e⟩
theorem TJ.start {w:World} {y:Cl} {ye:Int}:TJ w y ye (fun _=>none) w.drew:=by
 refine ⟨(Bi _ _).drew,?_,?_,?_,?_,?_,?_,?_⟩ <;> (intro X h;cases h)
theorem Qde (s:St) (m:Ms) (o:Nat→Option Addr) (c:Nat→Nat) (v:Value) (N:Nat) (w:World) (hv:StV w N v s) (hm:MsM w N m o c) (hN:N≤w.heap.size) (M:s.fits) (a8:m.fits) (aC:Qi w) (hw:Qd s=0) :
  Calls prog 49 #[v,.agg (msC m o c).toArray] w fun e w'=>Bd w w'∧∃ v',e=.returned (.tuple #[v',Bb (Qgl s m)])∧Qp N w.heap.size w' v' (QmD s m):=by
 have aX:=hid (fun (x:Cl) (cv:Value) W (hb:Bd w W) (hx:ClV W N cv x) (ap:x.fits)=>Qs9 x m o c cv N W s.time hx (hm.below (hb.mono hN)) (Bh hN hb.size) ap a8 (aC.past hb))
 have aM:=hid (fun W (hb:Bd w W)=>Qrq s v N W (hv.below (hb.mono hN)) (Bh hN hb.size) M (QF hw))
 have HE:=hid (show Qgl s m=if m.client<0∨(s.clients.length:Int)≤m.client then 6 else Qfi (Qiy s m.client) m s.time from rfl)
 have d:=hid (show QmD s m=if Qgl s m=0 then { s with clients:=s.clients.set m.client.toNat (QbW (Qiy s m.client) m s.time) } else St.none from rfl)
 have aK:=hid M.2.1.2;obtain ⟨o1,c1,o2,c2,o3,c3,o4,c4,o5,c5,o6,c6,o7,c7,rfl,aH⟩:=hv.open;have aT:=hid (fun W (hb:Bd w W)=>(aH.below (hb.mono hN)).clients)
 clear hv hm aH M a8 hw aC;generalize s.purses.length=n7,s.conns.length=n2,s.chans.length=n3,s.sent.length=n4,s.got.length=n5,s.acks.length=n6 at *
 go_in
 go_upto_region 1 with fail
 refine JP ?_;intro w0 F0 hs;clear hs;have k3:=F0.r0.k10.2.2.2.1;have q7:w0.cell? ⟨w.heap.size+1,7,none⟩=some (Bb m.client):=F0.r1.cell 7
 by_cases h0:m.client<0
 ·have e0:decide (m.client<0)=true:=by simpa using h0
  replace HE:=hid (HE.out.trans (if_pos (.inl h0)));rw [HE.out] at d;generalize s.clients.length=n1 at *;clear h0
  go_wp2_with (refine F0.store 2 rfl Qa (by simp) ?_;intro w5 F5 O5)
  refine Ql results49 rfl F5.r2 Qa rfl ⟨F5.b,_,by rw [HE.out];rfl,?_⟩
  rw [d.out];exact Qg _ _ _
 have e0:decide (m.client<0)=false:=by simpa using h0
 by_cases h1:(s.clients.length:Int)≤m.client
 ·have e1:decide ((s.clients.length:Int)≤m.client)=true:=by simpa using h1
  replace HE:=hid (HE.out.trans (if_pos (.inr h1)));rw [HE.out] at d;clear h0 h1;generalize s.clients.length=n1 at *
  go_wp2_with (refine F0.store 2 rfl Qa (by simp) ?_;intro w5 F5 O5)
  refine Ql results49 rfl F5.r2 Qa rfl ⟨F5.b,_,by rw [HE.out];rfl,?_⟩
  rw [d.out];exact Qg _ _ _
 have e1:decide ((s.clients.length:Int)≤m.client)=false:=by simpa using h1
 replace HE:=hid (HE.out.trans (if_neg (by omega)))
 obtain ⟨k,hk⟩:∃ k:Nat,m.client=(k:Int):=⟨m.client.toNat,by omega⟩
 rw [hk] at HE d q7 e0 e1;rw [Eh] at d;have S:k<s.clients.length:=by omega
 have hlt':(k:Int)<(s.clients.length:Int):=by omega
 obtain ⟨x,hx⟩:∃ x,s.clients[k]?=some x:=⟨_,Bk S⟩;rw [QaM hx] at HE d;obtain ⟨b,f,rfl,gx⟩:=(aT.out w0 F0.b).spot (by omega)
 obtain ⟨al,r,hr,cx⟩:=gx k x hx;obtain ⟨kv,rfl,aG⟩:=hr;obtain ⟨ka,ma,rfl,-⟩:=aG.shape;have x0:=cx 0 _ rfl;have x1:=cx 1 _ rfl;have x2:=cx 2 _ rfl;have x3:=cx 3 _ rfl;simp only [BI] at x0;have aN:=hid (fun W (hb:Bd w0 W)=>show ClV W N (.agg #[.string x.chain,Bb x.trust,.bool x.frozen,.slice ka x.known.length ma]) x from ⟨_,rfl,aG.below (hb.mono (Bh hN F0.b.size))⟩)
 have I:b<w0.heap.size:=Br al (Bh hN F0.b.size);have HX:=hid (And.intro x0 (And.intro x1 (And.intro x2 x3)));have aY:=hid (aK.out x (Bn hx));have ah:=hid hx;have aS:=hid hk;clear gx cx aG x0 x1 x2 x3 hx h0 h1 aK aT hk;generalize x.known.length=xl at *
 go_upto_region 3 with fail
 have A:=hid F0;clear F0 k3 q7 e0 e1;apply Qa3 (J:=TJ w0 (QbW x m s.time) (Qfi x m s.time)) (by kernel_rfl) (fun τ W hj=>And.intro (A.out.go hj.low).r0.k10 (And.intro (show W.cell? ⟨w.heap.size+1,7,none⟩=some (Bb (k:Int)) from (A.out.go hj.low).r1.cell 7 |>.trans (by rw [← aS.out];rfl)) (And.intro ((hj.low.cell (p:=⟨b,f+k*4,none⟩) I).trans HX.out.1) (And.intro ((hj.low.cell (p:=⟨b,f+k*4+1,none⟩) I).trans HX.out.2.1) (And.intro ((hj.low.cell (p:=⟨b,f+k*4+2,none⟩) I).trans HX.out.2.2.1) (And.intro ((hj.low.cell (p:=⟨b,f+k*4+3,none⟩) I).trans HX.out.2.2.2) (hid (A.out.go hj.low).r1))))))) TJ.start (by kernel_rfl)
 ·intro σ;simp [Qj];exact rfl
 iterate 6 (apply RJ.val (fun τ W h=>h.skip (by decide) _) rfl;· intro σ W hc ⟨hd,hu⟩;simp at hd;go_simp;exact rfl)
 apply RJ.val (fun τ W h=>h.skip (by decide) _) rfl;· intro σ W hc _;exact Qjl rfl rfl hc.2.2.2.2.2.2.out Y6
 iterate 2 (apply RJ.val (fun τ W h=>h.skip (by decide) _) rfl;· intro σ W hc ⟨hd,hu⟩;simp at hd;go_simp;exact rfl)
 apply RJ.call (fun _=>True) rfl
 ·intro σ W τ hj hc ha hn ⟨hd,hu⟩
  simp at hd hu;refine ⟨_,_,by go_simp <;> first | exact rfl | exact ⟨rfl,rfl⟩,(aX.out x _ W (A.out.go hj.low).b (aN.out W hj.low) aY.out).mono ?_⟩
  rintro e w' ⟨E,o',n',k',rfl,aE⟩
  have a9:∀ j,10≤j→j≤11→τ j=none:=fun j h1 h2=>by
   cases hτ:τ j with
   | none=>rfl
   | some X =>
    obtain rfl | rfl:j=10∨j=11:=by omega
    ·rw [hj.l10 X hτ] at hn;cases hn
    ·obtain ⟨b,hb⟩:=hj.l11 X hτ
     rw [hb] at hn;cases hn
  have T:τ 14=none:=by
   cases hτ:τ 14 with
   | none=>rfl
   | some X =>
    obtain ⟨_,_,_,_,_,h9,_⟩:=hj.put X hτ;rw [h9] at hn;cases hn
  refine ⟨_,rfl,⟨hj.low.trans (E.mono hj.low.size),fun X h=>?_,fun X h=>?_,fun X h=>?_,fun X h=>hj.l12 X (by simpa [QE] using h),fun X h=>?_,fun X h=>?_,fun X h=>hj.l15 X (by simpa [QE] using h)⟩,trivial⟩
  ·obtain rfl:_=X:=by simpa [QE] using h
   exact ⟨o',n',k',rfl,aE.mono hj.low.size⟩
  ·rw [show QE τ 9 _ 10=τ 10 from rfl,a9 10 (by omega) (by omega)] at h
   cases h
  ·rw [show QE τ 9 _ 11=τ 11 from rfl,a9 11 (by omega) (by omega)] at h
   cases h
  ·obtain ⟨g,e,h1,h2⟩:=hj.new X (by simpa [QE] using h)
   exact ⟨g,e,h1,h2.low E⟩
  ·rw [show QE τ 9 _ 14=τ 14 from rfl,T] at h
   cases h
 apply RJ.new rfl
 ·intro σ W τ hj hc ha hn ⟨hd,hu⟩
  have h9:τ 9=some (σ 9):=ha ⟨9,.data⟩ (by simp) (by decide)
  refine ⟨σ 9,W,by go_simp,⟨hj.low,fun X h=>hj.ans X (by simpa [QE] using h),fun X h=>?_,fun X h=>hj.l11 X (by simpa [QE] using h),fun X h=>hj.l12 X (by simpa [QE] using h),fun X h=>hj.new X (by simpa [QE] using h),fun X h=>hj.put X (by simpa [QE] using h),fun X h=>hj.l15 X (by simpa [QE] using h)⟩⟩
  obtain rfl:σ 9=X:=by simpa [QE] using h
  simpa [QE] using h9
 apply RJ.new rfl
 ·intro σ W τ hj hc ha hn ⟨hd,hu⟩
  have Y:τ 10=some (σ 10):=ha ⟨10,.data⟩ (by simp) (by decide)
  obtain ⟨o',n',k',aZ,-⟩:=hj.ans _ (hj.l10 _ Y);have h9:=hj.l10 _ Y;rw [aZ] at h9;refine ⟨.agg #[.string (QbW x m s.time).chain,Bb (QbW x m s.time).trust,.bool (QbW x m s.time).frozen,.slice o' n' k'],W,by go_simp,⟨hj.low,fun X h=>hj.ans X (by simpa [QE] using h),fun X h=>hj.l10 X (by simpa [QE] using h),fun X h=>?_,fun X h=>hj.l12 X (by simpa [QE] using h),fun X h=>hj.new X (by simpa [QE] using h),fun X h=>hj.put X (by simpa [QE] using h),fun X h=>hj.l15 X (by simpa [QE] using h)⟩⟩
  obtain rfl:_=X:=by simpa [QE] using h
  exact ⟨_,h9⟩
 apply RJ.new rfl
 ·intro σ W τ hj hc ha hn ⟨hd,hu⟩
  have Y:τ 10=some (σ 10):=ha ⟨10,.data⟩ (by simp) (by decide)
  obtain ⟨o',n',k',aZ,-⟩:=hj.ans _ (hj.l10 _ Y);refine ⟨Bb (Qfi x m s.time),W,by go_simp,⟨hj.low,fun X h=>hj.ans X (by simpa [QE] using h),fun X h=>hj.l10 X (by simpa [QE] using h),fun X h=>hj.l11 X (by simpa [QE] using h),fun X h=>?_,fun X h=>hj.new X (by simpa [QE] using h),fun X h=>hj.put X (by simpa [QE] using h),fun X h=>hj.l15 X (by simpa [QE] using h)⟩⟩
  obtain rfl:_=X:=by simpa [QE] using h
  rfl
 apply RJ.new rfl
 ·intro σ W τ hj hc ha hn ⟨hd,hu⟩
  have E:Bd W (W.alloc (.cells #[.string ⟨#[]⟩,Bb 0,.bool false,Bc] 78)):=(Bi _ _).alloc (Bj _) _
  have T:τ 14=none:=by
   cases hτ:τ 14 with
   | none=>rfl
   | some X =>
    obtain ⟨_,_,_,_,h9,_,_⟩:=hj.put X hτ;rw [h9] at hn;cases hn
  refine ⟨_,_,by go_simp;exact rfl,⟨hj.low.trans (E.mono hj.low.size),fun X h=>?_,fun X h=>hj.l10 X (by simpa [QE] using h),fun X h=>hj.l11 X (by simpa [QE] using h),fun X h=>hj.l12 X (by simpa [QE] using h),fun X h=>?_,fun X h=>?_,fun X h=>hj.l15 X (by simpa [QE] using h)⟩⟩
  ·obtain ⟨o',n',k',e,h1⟩:=hj.ans X (by simpa [QE] using h)
   exact ⟨o',n',k',e,h1.below E⟩
  ·obtain rfl:_=X:=by simpa [QE] using h
   exact ⟨_,rfl,hj.low.size,_,Row.new _ _ _,rfl⟩
  ·rw [show QE τ 13 _ 14=τ 14 from rfl,T] at h
   cases h
 apply RJ.store rfl rfl Qm
 ·intro σ W τ hj hc ha hn ⟨hd,hu⟩
  have D:τ 13=some (σ 13):=ha ⟨13,.data⟩ (by simp) (by decide)
  have ai:τ 11=some (σ 11):=ha ⟨11,.data⟩ (by simp) (by decide)
  obtain ⟨g,C,hg,ac⟩:=hj.new _ D;obtain ⟨b',h9⟩:=hj.l11 _ ai;obtain ⟨o',n',k',e9,aF⟩:=hj.ans _ h9;simp only [D8,BP,BM,BQ] at e9;obtain ⟨a4,rfl⟩:=e9;rw [a4] at h9;rw [C] at D;have ad:=ac;obtain ⟨old,ao,hol⟩:=ad;refine ⟨g,_,ac,C,a4,rfl,by simp,fun W' g2 g3=>?_⟩
  have ak:Bd w0 W':=g2.down hj.low hg;refine ⟨ak,fun X h=>?_,fun X h=>hj.l10 X (by simpa [QE] using h),fun X h=>hj.l11 X (by simpa [QE] using h),fun X h=>hj.l12 X (by simpa [QE] using h),fun X h=>?_,fun X h=>⟨g,o',n',k',D,h9,g3⟩,fun X h=>hj.l15 X (by simpa [QE] using h)⟩
  ·obtain ⟨au,ar,aq,e,h1⟩:=hj.ans X (by simpa [QE] using h)
   exact ⟨au,ar,aq,e,h1.other ao (by decide) (by decide) g2.same⟩
  ·rw [show QE τ 14 _ 13=τ 13 from rfl,D] at h
   obtain rfl:_=X:=by simpa using h
   exact ⟨g,rfl,hg,_,g3,rfl⟩
 apply RJ.new rfl
 ·intro σ W τ hj hc ha hn ⟨hd,hu⟩
  have aj:τ 12=some (σ 12):=ha ⟨12,.data⟩ (by simp) (by decide)
  have e12:=hj.l12 _ aj;refine ⟨Bb (Qfi x m s.time),W,by go_simp,⟨hj.low,fun X h=>hj.ans X (by simpa [QE] using h),fun X h=>hj.l10 X (by simpa [QE] using h),fun X h=>hj.l11 X (by simpa [QE] using h),fun X h=>hj.l12 X (by simpa [QE] using h),fun X h=>hj.new X (by simpa [QE] using h),fun X h=>hj.put X (by simpa [QE] using h),fun X h=>?_⟩⟩
  obtain rfl:_=X:=by simpa [QE] using h
  rfl
 intro σ w1 τ hτ hj _ _;have C:=hτ 13 (by simp)
 have a5:=hj.l15 _ (hτ 15 (by simp))
 obtain ⟨g,ko,kn,kc,D,h9,aa⟩:=hj.put _ (hτ 14 (by simp))
 obtain ⟨g',eg,hg,-⟩:=hj.new _ D;obtain ⟨_,_,_,e9,aF⟩:=hj.ans _ h9;simp only [D8,BX,BP,BM,BQ,true_and,DH] at e9;obtain ⟨rfl,rfl,rfl⟩:=e9;obtain rfl:g=g':=by simpa using eg
 replace C:σ 13=.pointer (some ⟨g,0,none⟩):=by rw [D] at C;exact (Bu C).symm
 have F1:=A.out.go hj.low;have aR:=hid aF.held;have aD:=hid aa;have aJ:=hid A.out.b.size;have ae:=hid hj.low.size;have l0:=A.out.r0.lt;have l2:=A.out.r2.lt;simp only [C,a5];clear C a5 hτ hj D h9 aF aa eg A aX aN HX aY I;generalize QbW x m s.time=y at *;generalize Qfi x m s.time=ye at *
 by_cases hz:ye=0
 ·subst hz
  rw [if_pos HE.out] at d
  go_wp2_with (refine F1.load 0 rfl Qa ?_)
  refine (aM.out _ F1.b).mono ?_;rintro e w2 ⟨G,p1,d1,p2,d2,p3,d3,p4,d4,p5,d5,p6,d6,p7,d7,mm,rfl,aH,a6,ab⟩;have F2:=F1.go G;have aP:=hid (aR.out.below G);have aA:=rgo aD G;have af:=hid aD.out.lt;have aL:=hid a6;have aW:=hid ab;have hb2s:=G.size;have L1:=hid F1.lts;clear G a6 ab aR aD aM
  go_upto_region 7 with (refine F2.store 0 rfl Qa (by simp) ?_;intro w3 F3 O3)
  have hB1:=ae.out;have aQ:=hid (aP.out.on O3.below fun b hF=>O3.same b (by omega))
  have aV:=hid (show Row w3 g 78 [.string y.chain,Bb y.trust,.bool y.frozen,.slice ko kn kc] from (O3.same g (by omega)).trans aA.out)
  obtain ⟨rs,g1,g2,g3,g4⟩:=aL.out.on O3.below fun b S hF=>O3.same b (by omega)
  have aU:=hid (aW.out.on O3.below fun b S hF=>O3.same b (by omega))
  have hsz3:=O3.size;clear aP aA aL aW O3 F2;obtain ⟨r,hr⟩:∃ r,rs[k]?=some r:=⟨_,Bk (by omega)⟩
  obtain ⟨kv,rfl,-⟩:=(g4 k r x hr ah.out).now;obtain ⟨gr,rfl,am,hgl,L,O⟩:=Qf.at g2 hr;have f0:=L 0 _ rfl;have z0:=O (k*4);have f1:=L 1 _ rfl;have z1:=O (k*4+1);have f2:=L 2 _ rfl;have z2:=O (k*4+2);have f3:=L 3 _ rfl;have z3:=O (k*4+3);simp only [BI] at f0;have k3:=F3.r0.k10.2.2.2.1;have q7:w3.cell? ⟨w.heap.size+1,7,none⟩=some (Bb (k:Int)):=(F3.r1.cell 7).trans (by rw [← aS.out];rfl)
  obtain ⟨a0,a1,a2,a3⟩:=aV.out.k4;have an:=g3 gr rfl
  have aB:=Qf.put g2 (i:=k) (r:=[.string y.chain,Bb y.trust,.bool y.frozen,.slice ko kn kc]) (by omega) ⟨rfl,fun u hu=>by simp at hu;rcases hu with rfl | rfl | rfl | rfl <;> rfl⟩
  have z:=Q3 w3 gr (k*4) [.string y.chain,Bb y.trust,.bool y.frozen,.slice ko kn kc]
  have aO:=hid (show Qp N w0.heap.size (w3.setCells gr (k*4) [.string y.chain,Bb y.trust,.bool y.frozen,.slice ko kn kc]) (.agg #[.string s.name,Bb s.height,Bb s.time,.slice (some ⟨gr,0,none⟩) s.clients.length d1,.slice p2 n2 d2,.slice p3 n3 d3,.slice p4 n4 d4,.slice p5 n5 d5,.slice p6 n6 d6,.slice p7 n7 d7]) { s with clients:=s.clients.set k y } from
   QfY (base:=w1.heap.size) (m:=mm) (by simp [g1]) aB (by omega) (by omega) (fun i r u hr hu=>by
    by_cases hi:i=k
    ·subst hi
     rw [Dy (by omega)] at hr hu
     obtain rfl:=Bu hr;obtain rfl:=Bu hu;have a7:=aQ.out.grown z (fun q e hF=>by obtain rfl:=Bu e;omega)
     exact ⟨fun b hF=>hF.2,fun av E aE=>⟨_,rfl,a7.2 av E fun b hF=>aE b ⟨.inr hF.1,a7.1 b hF⟩⟩⟩
    ·rw [BZ (Ne.symm hi)] at hr hu
     exact ((g4 i r u hr hu).grown z (fun q e hF=>hF.1 e.symm)).wide (fun b hF=>⟨hF.2.1.imp id (fun h=>by omega),by have:=z.size;omega⟩) (fun b hF=>hF.2))
    (aU.out.on (Qb9 z) fun b S hF=>z.block b S fun e=>by obtain rfl:=Bu e;omega))
  have F4:=F3.past (JN (Bj gr) [.string y.chain,Bb y.trust,.bool y.frozen,.slice ko kn kc] (k*4) w3 (Bi _ _)) (by have:=aJ.out;omega) (fun q hq=>Br (L1.out q hq) am)
  obtain ⟨w4,aI⟩:∃ w4,w3.setCells gr (k*4) [.string y.chain,Bb y.trust,.bool y.frozen,.slice ko kn kc]=w4:=⟨_,rfl⟩;rw [aI] at aO F4;have ag:=hid aI;have hgne:gr≠g:=by have:=af.out;omega
  clear aI aB z L O g1 g2 g3 g4 hr aQ aU an
  go_upto_region 8 with fail
  refine Qab ag.out ?_;clear f0 z0 f1 z1 f2 z2 f3 z3 k3 q7 a0 a1 a2 a3 F3;generalize s.clients.length=n1 at *
  go_wp2_with (first | refine F4.load 0 rfl Qa ?_ | (refine F4.store 2 rfl Qa (by simp) ?_;intro w8 F8 O8))
  refine Ql results49 rfl F8.r2 Qa rfl ⟨F8.b,_,by rw [HE.out];rfl,?_⟩
  rw [d.out];exact (aO.out.only O8 (by omega) l2).lower aJ.out
 ·have hzb:(ye != 0)=true:=by simpa using hz
  rw [if_neg (by rw [HE.out];exact hz)] at d
  go_wp2_with (refine F1.store 2 rfl Qa (by simp) ?_;intro w5 F5 O5)
  refine Ql results49 rfl F5.r2 Qa rfl ⟨F5.b,_,by rw [HE.out];rfl,?_⟩
  rw [d.out];exact Qg _ _ _
def Qj0 (N B:Nat) (x:Option Value) (W:World) (b:Nat):Prop:=(b<N∨B≤b)∧b<W.heap.size∧x≠some (.pointer (some ⟨b,0,none⟩))
structure SJ (w:World) (gs N:Nat) (s0:List Value) (data:Bg) (S:St) (p:Pk) (e:Int) (τ:Nat→Option Value) (W:World):Prop where
 low:Below 0 w W
 same:∀ k,k<w.heap.size→k≠gs→W.heap[k]?=w.heap[k]?
 var:τ 13=none→Row W gs 28 s0
 sp:Sp gs 28 10 W
 byt:∀ X,τ 4=some X→τ 7=none→Bytes W W.heap.size X data
 new:∀ X,τ 12=some X→∃ g,X=.pointer (some ⟨g,0,none⟩)∧w.heap.size≤g∧Sp g 51 5 W
 ans:∀ X,τ 7=some X→∃ cs ps,X=.tuple #[.agg cs,.agg ps,Bb e]∧QM (Qj0 N w.heap.size (τ 12) W) W (fun w2=>StV w2 w2.heap.size (.agg cs) S)∧QM (Qj0 N w.heap.size (τ 12) W) W (fun w2=>PkV w2 w2.heap.size (.agg ps) p)
 l7:∀ X,τ 7=some X→∃ Y,τ 0=some Y
 l8:∀ X,τ 8=some X→τ 7=some X
 l9:∀ X,τ 9=some X→∃ b c,τ 7=some (.tuple #[X,b,c])
 l10:∀ X,τ 10=some X→∃ a c,τ 7=some (.tuple #[a,X,c])
 l11:∀ X,τ 11=some X→X=Bb e
 p13:∀ X,τ 13=some X→∃ cs b c,τ 7=some (.tuple #[.agg cs,b,c])∧Row W gs 28 cs.toList
 p14:∀ X,τ 14=some X→∃ ps a c g,τ 7=some (.tuple #[a,.agg ps,c])∧τ 12=some (.pointer (some ⟨g,0,none⟩))∧Row W g 51 ps.toList
 l15:∀ X,τ 15=some X→X=Bb e
section
variable {w:World} {gs N:Nat} {s0:List Value} {data:List (BitVec 8)} {S:St} {p:Pk} {e:Int} {τ:Nat→Option Value} {W W':World}
theorem SJ.start (hr:Row w gs 28 s0) (hl:s0.length=10):SJ w gs N s0 data S p e (fun _=>none) w.drew:=by
 refine ⟨(Bi _ _).drew,fun _ _ _=>rfl,fun _=>hr.below (Bi _ _).drew hr.lt,⟨_,hr.below (Bi _ _).drew hr.lt,hl⟩,?_,?_,?_,?_,?_,?_,?_,?_,?_,?_,?_⟩ <;> (intro X h;cases h)
theorem SJ.skip (h:SJ w gs N s0 data S p e τ W) {k:Nat} (hk:k≠4∧k<7) (v:Value):SJ w gs N s0 data S p e (QE τ k v) W:=by
 have q:∀ i,i=4∨7≤i→QE τ k v i=τ i:=fun i hi=>if_neg (by omega)
 refine ⟨h.low,h.same,?_,h.sp,?_,?_,?_,?_,?_,?_,?_,?_,?_,?_,?_⟩
 ·rw [q 13 (by omega)];exact h.var
 ·rw [q 4 (by omega),q 7 (by omega)];exact h.byt
 ·rw [q 12 (by omega)];exact h.new
 ·rw [q 7 (by omega),q 12 (by omega)];exact h.ans
 ·rw [q 7 (by omega)]
  intro X hX
  by_cases h0:0=k
  ·exact ⟨v,if_pos h0⟩
  ·rw [show QE τ k v 0=τ 0 from if_neg h0]
   exact h.l7 X hX
 ·rw [q 8 (by omega),q 7 (by omega)];exact h.l8
 ·rw [q 9 (by omega),q 7 (by omega)];exact h.l9
 ·rw [q 10 (by omega),q 7 (by omega)];exact h.l10
 ·rw [q 11 (by omega)];exact h.l11
 ·rw [q 13 (by omega),q 7 (by omega)];exact h.p13
 ·rw [q 14 (by omega),q 7 (by omega),q 12 (by omega)];exact h.p14
 ·rw [q 15 (by omega)];exact h.l15
theorem SJ.grow (h:SJ w gs N s0 data S p e τ W) (hb:Bd W W'):SJ w gs N s0 data S p e τ W':=by
 have hA:∀ x b,Qj0 N w.heap.size x W b→Qj0 N w.heap.size x W' b:=fun x b hF=>⟨hF.1,Br hF.2.1 hb.size,hF.2.2⟩
 refine ⟨h.low.trans (hb.mono (BH _)),fun k hk hg=>(hb.block k (Br hk h.low.size)).trans (h.same k hk hg),fun h1=>(h.var h1).below hb (h.var h1).lt,h.sp.low hb,fun X h1 h2=>((h.byt X h1 h2).below hb).mono hb.size,fun X h1=>?_,fun X h1=>?_,h.l7,h.l8,h.l9,h.l10,h.l11,fun X h1=>?_,fun X h1=>?_,h.l15⟩
 ·obtain ⟨g,h2,h3,h4⟩:=h.new X h1
  exact ⟨g,h2,h3,h4.low hb⟩
 ·obtain ⟨cs,ps,h2,h3,h4⟩:=h.ans X h1
  exact ⟨cs,ps,h2,(h3.below hb).wide (hA _) (fun b hF=>hF.2.1),(h4.below hb).wide (hA _) (fun b hF=>hF.2.1)⟩
 ·obtain ⟨cs,b,c,h2,h3⟩:=h.p13 X h1
  exact ⟨cs,b,c,h2,h3.below hb h3.lt⟩
 ·obtain ⟨ps,a,c,g,h2,h3,h4⟩:=h.p14 X h1
  exact ⟨ps,a,c,g,h2,h3,h4.below hb h4.lt⟩
theorem SJ.fresh (h:SJ w gs N s0 data S p e τ W) (hn:τ 0=none):τ 13=none:=by
 cases d:τ 13 with
 | none=>rfl
 | some X =>
  obtain ⟨cs,b,c,h7,-⟩:=h.p13 X d;obtain ⟨Y,hY⟩:=h.l7 _ h7;rw [hn] at hY;cases hY
theorem SJ.set4 (h:SJ w gs N s0 data S p e τ W) {v:Value} (hv:Bytes W W.heap.size v data):SJ w gs N s0 data S p e (QE τ 4 v) W :=
 ⟨h.low,h.same,h.var,h.sp,fun X h1 _=>by
  obtain rfl:v=X:=by simpa [QE] using h1
  exact hv,h.new,h.ans,h.l7,h.l8,h.l9,h.l10,h.l11,h.p13,h.p14,h.l15⟩
theorem SJ.set7 (h:SJ w gs N s0 data S p e τ W) (hn:τ 7=none) (h0:∃ Y,τ 0=some Y) (hb:Bd W W') (hNB:N≤w.heap.size) {cs ps:Array Value} (h1:Qp N W.heap.size W' (.agg cs) S) (h2:JV N W.heap.size W' (.agg ps) p):SJ w gs N s0 data S p e (QE τ 7 (.tuple #[.agg cs,.agg ps,Bb e])) W':=by
 have hF:∀ b,(b<N∨W.heap.size≤b)∧b<W'.heap.size→Qj0 N w.heap.size (τ 12) W' b:=fun b hF=>⟨hF.1.imp id (Bh h.low.size),hF.2,fun j=>by
  obtain ⟨g,e1,e2,old,e3,-⟩:=h.new _ j;have:=e3.lt;simp only [Value.pointer.injEq,C4,Dx] at e1
  omega⟩
 have g:=h.grow hb;refine ⟨g.low,g.same,g.var,g.sp,fun X h3 h4=>?_,g.new,fun X h3=>?_,fun _ _=>h0,fun X h3=>?_,fun X h3=>?_,fun X h3=>?_,g.l11,fun X h3=>?_,fun X h3=>?_,g.l15⟩
 ·simp [QE] at h4
 ·obtain rfl:_=X:=by simpa [QE] using h3
  exact ⟨cs,ps,rfl,QM.wide h1 hF (fun b hF=>hF.2.1),QM.wide h2 hF (fun b hF=>hF.2.1)⟩
 ·have:=g.l8 X h3;rw [hn] at this;cases this
 ·obtain ⟨b,c,this⟩:=g.l9 X h3;rw [hn] at this;cases this
 ·obtain ⟨b,c,this⟩:=g.l10 X h3;rw [hn] at this;cases this
 ·obtain ⟨b,c,d,this,-⟩:=g.p13 X h3;rw [hn] at this;cases this
 ·obtain ⟨b,c,d,f,this,-⟩:=g.p14 X h3;rw [hn] at this;cases this
theorem SJ.set8 (h:SJ w gs N s0 data S p e τ W) {v:Value} (hv:τ 7=some v):SJ w gs N s0 data S p e (QE τ 8 v) W :=
 ⟨h.low,h.same,h.var,h.sp,h.byt,h.new,h.ans,h.l7,fun X h1=>by
  obtain rfl:v=X:=by simpa [QE] using h1
  exact hv,h.l9,h.l10,h.l11,h.p13,h.p14,h.l15⟩
theorem SJ.set9 (h:SJ w gs N s0 data S p e τ W) {v b c:Value} (hv:τ 7=some (.tuple #[v,b,c])):SJ w gs N s0 data S p e (QE τ 9 v) W :=
 ⟨h.low,h.same,h.var,h.sp,h.byt,h.new,h.ans,h.l7,h.l8,fun X h1=>by
  obtain rfl:v=X:=by simpa [QE] using h1
  exact ⟨_,_,hv⟩,h.l10,h.l11,h.p13,h.p14,h.l15⟩
theorem SJ.set10 (h:SJ w gs N s0 data S p e τ W) {v b c:Value} (hv:τ 7=some (.tuple #[b,v,c])):SJ w gs N s0 data S p e (QE τ 10 v) W :=
 ⟨h.low,h.same,h.var,h.sp,h.byt,h.new,h.ans,h.l7,h.l8,h.l9,fun X h1=>by
  obtain rfl:v=X:=by simpa [QE] using h1
  exact ⟨_,_,hv⟩,h.l11,h.p13,h.p14,h.l15⟩
theorem SJ.set11 (h:SJ w gs N s0 data S p e τ W):SJ w gs N s0 data S p e (QE τ 11 (Bb e)) W :=
 ⟨h.low,h.same,h.var,h.sp,h.byt,h.new,h.ans,h.l7,h.l8,h.l9,h.l10,fun X h1=>by
  obtain rfl:_=X:=by simpa [QE] using h1
  rfl,h.p13,h.p14,h.l15⟩
theorem SJ.set15 (h:SJ w gs N s0 data S p e τ W):SJ w gs N s0 data S p e (QE τ 15 (Bb e)) W :=
 ⟨h.low,h.same,h.var,h.sp,h.byt,h.new,h.ans,h.l7,h.l8,h.l9,h.l10,h.l11,h.p13,h.p14,fun X h1=>by
  obtain rfl:_=X:=by simpa [QE] using h1
  rfl⟩
theorem SJ.set12 (h:SJ w gs N s0 data S p e τ W) (hn:τ 12=none) {cs:List Value} (hl:cs.length=5):SJ w gs N s0 data S p e (QE τ 12 (.pointer (some ⟨W.heap.size,0,none⟩))) (W.alloc (.cells cs.toArray 51)):=by
 have hb:Bd W (W.alloc (.cells cs.toArray 51)):=(Bi _ _).alloc (by omega) _
 have g:=h.grow hb
 have hF:∀ b,Qj0 N w.heap.size (τ 12) W b→Qj0 N w.heap.size (some (.pointer (some ⟨W.heap.size,0,none⟩))) (W.alloc (.cells cs.toArray 51)) b:=fun b hF=>⟨hF.1,Br hF.2.1 hb.size,fun e=>by
  simp only [Value.pointer.injEq,C4,Dx] at e;have:=hF.2.1
  omega⟩
 refine ⟨g.low,g.same,g.var,g.sp,g.byt,fun X h1=>?_,fun X h1=>?_,g.l7,g.l8,g.l9,g.l10,g.l11,g.p13,fun X h1=>?_,g.l15⟩
 ·obtain rfl:_=X:=by simpa [QE] using h1
  exact ⟨_,rfl,h.low.size,_,Row.new _ _ _,hl⟩
 ·obtain ⟨a,b,h2,h3,h4⟩:=h.ans X h1
  exact ⟨a,b,h2,(h3.below hb).wide hF (fun b hF=>hF.2.1),(h4.below hb).wide hF (fun b hF=>hF.2.1)⟩
 ·obtain ⟨_,_,_,_,_,h3,_⟩:=g.p14 X h1
  rw [hn] at h3;cases h3
theorem SJ.set13 (h:SJ w gs N s0 data S p e τ W) (hg:N≤gs∧gs<w.heap.size) {cs:Array Value} {b c:Value} (hv:τ 7=some (.tuple #[.agg cs,b,c])) (O:JH gs W W') (hr:Row W' gs 28 cs.toList) (hl:10=cs.size) (v:Value):SJ w gs N s0 data S p e (QE τ 13 v) W':=by
 refine ⟨h.low.trans O.below,fun k hk d=>(O.same k d).trans (h.same k hk d),fun h1=>?_,⟨_,hr,by simpa using hl.symm⟩,fun X h1 h2=>?_,fun X h1=>?_,fun X h1=>?_,h.l7,h.l8,h.l9,h.l10,h.l11,fun X _=>⟨cs,b,c,hv,hr⟩,fun X h1=>?_,h.l15⟩
 ·simp [QE] at h1
 ·rw [show QE τ 13 v 7=τ 7 from rfl,hv] at h2;cases h2
 ·obtain ⟨g,h2,h3,h4⟩:=h.new X h1
  exact ⟨g,h2,h3,h4.only O (by omega)⟩
 ·obtain ⟨cs,ps,h2,h3,h4⟩:=h.ans X h1
  have hk:∀ b,Qj0 N w.heap.size (τ 12) W b→W'.heap[b]?=W.heap[b]?:=fun b hF=>O.same b (by have:=hF.1;omega)
  exact ⟨cs,ps,h2,(h3.on O.below hk).wide (fun b hF=>⟨hF.1,by rw [O.size];exact hF.2.1,hF.2.2⟩) (fun b hF=>hF.2.1),(h4.on O.below hk).wide (fun b hF=>⟨hF.1,by rw [O.size];exact hF.2.1,hF.2.2⟩) (fun b hF=>hF.2.1)⟩
 ·obtain ⟨ps,a,c,g,h2,h3,h4⟩:=h.p14 X h1
  obtain ⟨g',e1,e2,-⟩:=h.new _ h3;simp only [Value.pointer.injEq,C4,Dx] at e1;exact ⟨ps,a,c,g,h2,h3,(O.same g (by omega)).trans h4⟩
theorem SJ.set14 (h:SJ w gs N s0 data S p e τ W) (hg:N≤gs∧gs<w.heap.size) {ps:Array Value} {a c:Value} {g:Nat} (hv:τ 7=some (.tuple #[a,.agg ps,c])) (d:τ 12=some (.pointer (some ⟨g,0,none⟩))) (j:w.heap.size≤g) (O:JH g W W') (hr:Row W' g 51 ps.toList) (hl:5=ps.size) (v:Value):SJ w gs N s0 data S p e (QE τ 14 v) W':=by
 refine ⟨h.low.trans O.below,fun k hk m=>(O.same k (by omega)).trans (h.same k hk m),fun h1=>(O.same gs (by omega)).trans (h.var h1),h.sp.only O (by omega),fun X h1 h2=>?_,fun X h1=>?_,fun X h1=>?_,h.l7,h.l8,h.l9,h.l10,h.l11,fun X h1=>?_,fun X _=>⟨ps,a,c,g,hv,d,hr⟩,h.l15⟩
 ·rw [show QE τ 14 v 7=τ 7 from rfl,hv] at h2;cases h2
 ·rw [show QE τ 14 v 12=τ 12 from rfl,d] at h1
  obtain rfl:=Bu h1;exact ⟨g,rfl,j,_,hr,by simpa using hl.symm⟩
 ·obtain ⟨cs,ps,h2,h3,h4⟩:=h.ans X h1
  have hk:∀ b,Qj0 N w.heap.size (τ 12) W b→W'.heap[b]?=W.heap[b]?:=fun b hF=>O.same b (fun e=>hF.2.2 (by rw [d,e]))
  exact ⟨cs,ps,h2,(h3.on O.below hk).wide (fun b hF=>⟨hF.1,by rw [O.size];exact hF.2.1,hF.2.2⟩) (fun b hF=>hF.2.1),(h4.on O.below hk).wide (fun b hF=>⟨hF.1,by rw [O.size];exact hF.2.1,hF.2.2⟩) (fun b hF=>hF.2.1)⟩
 ·obtain ⟨cs,b,c,h2,h3⟩:=h.p13 X h1
  exact ⟨cs,b,c,h2,(O.same gs (by omega)).trans h3⟩
end
theorem QsU {s:St} {i:Int} {d:Bg} {t:Int} (h:YN s i d t=0):∃ k:Nat,i=(k:Int)∧k≤9223372036854775807:=by
 unfold YN at h
 by_cases h0:Ja s i [3]=0
 ·have:=(Yn h0).2.1
  have:=(QF (Yn h0).1).2.2.1;exact ⟨i.toNat,by omega,by omega⟩
 ·rw [if_pos h0] at h;exact absurd h h0
theorem QsT (s:St) (m:Ms) (o:Nat→Option Addr) (c:Nat→Nat) (v:Value) (N:Nat) (w:World) (hv:StV w N v s) (hN:N≤w.heap.size) (G:s.fits) (aX:m.fits) (aA:Qi w) (Y:QL w) (hw:Qd s=0) :
  Calls prog 61 #[v,.agg (msC m o c).toArray] w fun e w'=>Bd w w'∧∃ v' pv,e=.returned (.tuple #[v',pv,Bb (QfN s m)])∧Qp N w.heap.size w' v' (QqH s m)∧JV N w.heap.size w' pv (Quo s m):=by
 have T:=aX.2.2.2.2.2.1;have aG:=JG hw G;have aR:=hid (fun W g (hr:Row W g 9 [.string m.tr.sender])=>QoW m.tr [m.tr.sender] g 1 W T hr rfl (by omega))
 have aL:=hid (fun W=>Qg0 m.tr W T)
 have aQ:=hid (fun W (hb:Bd w W) dv (hd:Bytes W W.heap.size dv (QG m.tr))=>Qvc s v dv (QG m.tr) N W.heap.size W m.fin m.tmo (hv.below (hb.mono hN)) hd (Bh hN hb.size) (Bj _) G (by have:=Qg1 m.tr;omega) (aA.past hb))
 have I:=hid (show ∀ (h0:YN s m.fin (QG m.tr) m.tmo=0) W (_:Bd w W) sv,Qt PuR 3 W W.heap.size sv s.purses→Calls prog 92 #[sv,Bb m.fin,.agg #[.string m.tr.denom,.int .u64 (m.tr.amount:Int),.string m.tr.sender,.string m.tr.reader]] W fun e w'=>Bd W w'∧∃ v,e=.returned (.tuple #[v,Bb (Qc1 s.purses m.fin.toNat m.tr)])∧J0 W.heap.size w' v (Qcc s.purses m.fin.toNat m.tr) from fun h0 W hb sv hl=>by
  obtain ⟨k,hk,an⟩:=QsU h0;rw [hk,Eh]
  exact Qp0 s.purses k m.tr sv W.heap.size W (Y.below hb) (Bj _) hl aG.2 aG.1 T.2.1 an)
 have HE:=hid (show QfN s m=if trN m.tr [m.tr.sender]≠0 then trN m.tr [m.tr.sender] else if YN s m.fin (QG m.tr) m.tmo≠0 then YN s m.fin (QG m.tr) m.tmo else Qc1 s.purses m.fin.toNat m.tr from rfl)
 have A:=hid (show QqH s m=if QfN s m=0 then { Qc9 s (Jv s m.fin (QG m.tr) m.tmo) with purses:=Qcc s.purses m.fin.toNat m.tr } else St.none from rfl)
 have z:=hid (show Quo s m=if QfN s m=0 then Jv s m.fin (QG m.tr) m.tmo else Pk.none from rfl)
 have M:=hid (show Qh4 s m.fin (QG m.tr) m.tmo=if YN s m.fin (QG m.tr) m.tmo=0 then Qc9 s (Jv s m.fin (QG m.tr) m.tmo) else St.none from rfl)
 have aD:=hid (show Qh3 s m.fin (QG m.tr) m.tmo=if YN s m.fin (QG m.tr) m.tmo=0 then Jv s m.fin (QG m.tr) m.tmo else Pk.none from rfl)
 obtain ⟨o1,c1,o2,c2,o3,c3,o4,c4,o5,c5,o6,c6,o7,c7,rfl,-⟩:=hv.open;clear hv G aX aA Y hw T aG;generalize s.purses.length=n7,s.clients.length=n1,s.conns.length=n2,s.chans.length=n3,s.sent.length=n4,s.got.length=n5,s.acks.length=n6 at *
 go_in
 go_upto_region 1 with fail
 refine Qah ?_;intro w0 F0 hs;have aP:=hid hs;clear hs
 go_upto_region 2 with (refine F0.loadMid 1 50 [.string m.tr.denom,.int .u64 (m.tr.amount:Int),.string m.tr.sender,.string m.tr.reader] rfl rfl rfl rfl rfl Qie ?_)
 refine F0.box ?_;intro w1 F1 ap al;clear ap al F0;obtain ⟨a0,a1,a2,a3⟩:=F1.r4.k4
 go_wp2_with fail
 refine QbZ ?_;intro w2 aY aU;have F2:=F1.go aU;refine (aR.out w2 _ aY).mono ?_;rintro e w3 ⟨rfl,aV⟩;have F3:=F2.go aV;clear aU aV aY a0 a1 a2 a3 F2 aR;generalize trN m.tr [m.tr.sender]=te at *
 by_cases hz:te=0
 ·subst hz
  replace HE:=hid (HE.out.trans (if_neg (by simp)))
  go_upto_region 5 with fail
  have HF:=hid F3;have aa:=F3.r0.lt;have av:=F3.r4.lt;have ar:w.heap.size+4≤w0.heap.size:=aP.out;have q:=hid (show N≤w.heap.size∧w.heap.size<w3.heap.size from ⟨hN,aa⟩);have aK:=hid F3.b.size;have d:=hid (show ∀ W,(∀ k,k<w3.heap.size→k≠w.heap.size→W.heap[k]?=w3.heap[k]?)→Row W w0.heap.size 49 [.string m.tr.denom,.int .u64 (m.tr.amount:Int),.string m.tr.sender,.string m.tr.reader]∧Row W (w.heap.size+1) 53 (msC m o c) from fun W h=>⟨(h _ HF.out.r4.lt (by omega)).trans HF.out.r4,(h _ HF.out.r1.lt (by omega)).trans HF.out.r1⟩)
  have aC:=hid (fun (W:World) (h1:Below 0 w3 W) (h2:∀ k,k<w3.heap.size→k≠w.heap.size→W.heap[k]?=w3.heap[k]?)=>show Bd w W from HF.out.b.trans ⟨h1.os,h1.tape,h1.output,h1.size,fun k hk=>h2 k (by omega) (by omega)⟩)
  clear F1 F3;apply Qa3 (J:=SJ w3 w.heap.size N [.string s.name,Bb s.height,Bb s.time,.slice o1 n1 c1,.slice o2 n2 c2,.slice o3 n3 c3,.slice o4 n4 c4,.slice o5 n5 c5,.slice o6 n6 c6,.slice o7 n7 c7] (QG m.tr) (Qh4 s m.fin (QG m.tr) m.tmo) (Qh3 s m.fin (QG m.tr) m.tmo) (YN s m.fin (QG m.tr) m.tmo)) (by kernel_rfl) (fun τ W hj=>And.intro (d.out W hj.same).1.k4 (And.intro (show W.cell? ⟨w.heap.size+1,30,none⟩=some (Bb m.fin) from (d.out W hj.same).2.cell 30) (show W.cell? ⟨w.heap.size+1,54,none⟩=some (Bb m.tmo) from (d.out W hj.same).2.cell 54))) (SJ.start HF.out.r0 rfl) (by kernel_rfl)
  ·intro σ;simp [Qj];exact rfl
  apply RJ.valJ (fun τ W h=>h.skip (by decide) _) rfl;· intro σ W τ hj hc hn;exact Qjl rfl rfl (hj.var (hj.fresh hn)) Qa
  iterate 3 (apply RJ.val (fun τ W h=>h.skip (by decide) _) rfl;· intro σ W hc ⟨hd,hu⟩;simp at hd;go_simp;exact rfl)
  apply RJ.call (fun _=>True) rfl
  ·intro σ W τ hj hc ha hn ⟨hd,hu⟩
   simp at hd hu;refine ⟨_,_,by go_simp <;> first | exact rfl | exact ⟨rfl,rfl⟩,(aL.out W).mono ?_⟩
   rintro e w' ⟨aH,bv,rfl,am⟩;exact ⟨_,rfl,(hj.grow aH).set4 am,trivial⟩
  iterate 2 (apply RJ.val (fun τ W h=>h.skip (by decide) _) rfl;· intro σ W hc ⟨hd,hu⟩;simp at hd;go_simp;exact rfl)
  apply RJ.call (fun _=>True) rfl
  ·intro σ W τ hj hc ha hn ⟨hd,hu⟩
   have h0:τ 0=some (σ 0):=ha ⟨0,.data⟩ (by simp) (by decide)
   have h4:τ 4=some (σ 4):=ha ⟨4,.data⟩ (by simp) (by decide)
   simp at hd hu;refine ⟨_,_,by go_simp <;> first | exact rfl | exact ⟨rfl,rfl⟩,(aQ.out W (aC.out W hj.low hj.same) (σ 4) (hj.byt _ h4 hn)).mono ?_⟩
   rintro e w' ⟨aH,v',pv,rfl,hh,hp⟩;obtain ⟨a1,b1,d1,a2,b2,d2,a3,b3,d3,a4,b4,d4,a5,b5,d5,a6,b6,d6,a7,b7,d7,rfl⟩:=hh.open;obtain ⟨od,nd,cd,rfl⟩:=hp.open;exact ⟨_,rfl,hj.set7 hn ⟨_,h0⟩ aH (Nat.le_of_lt (Nat.lt_of_le_of_lt q.out.1 q.out.2)) hh hp,trivial⟩
  apply RJ.new rfl
  ·intro σ W τ hj hc ha hn ⟨hd,hu⟩
   have h7:τ 7=some (σ 7):=ha ⟨7,.data⟩ (by simp) (by decide)
   exact ⟨σ 7,W,by go_simp,hj.set8 h7⟩
  apply RJ.new rfl
  ·intro σ W τ hj hc ha hn ⟨hd,hu⟩
   have h8:τ 8=some (σ 8):=ha ⟨8,.data⟩ (by simp) (by decide)
   have h7:=hj.l8 _ h8;obtain ⟨cs,ps,e8,-,-⟩:=hj.ans _ h7;rw [e8] at h7;exact ⟨.agg cs,W,by go_simp,hj.set9 h7⟩
  apply RJ.new rfl
  ·intro σ W τ hj hc ha hn ⟨hd,hu⟩
   have h8:τ 8=some (σ 8):=ha ⟨8,.data⟩ (by simp) (by decide)
   have h7:=hj.l8 _ h8;obtain ⟨cs,ps,e8,-,-⟩:=hj.ans _ h7;rw [e8] at h7;exact ⟨.agg ps,W,by go_simp,hj.set10 h7⟩
  apply RJ.new rfl
  ·intro σ W τ hj hc ha hn ⟨hd,hu⟩
   have h8:τ 8=some (σ 8):=ha ⟨8,.data⟩ (by simp) (by decide)
   have h7:=hj.l8 _ h8;obtain ⟨cs,ps,e8,-,-⟩:=hj.ans _ h7;exact ⟨Bb (YN s m.fin (QG m.tr) m.tmo),W,by go_simp,hj.set11⟩
  apply RJ.new rfl
  ·intro σ W τ hj hc ha hn ⟨hd,hu⟩
   exact ⟨_,_,by go_simp,hj.set12 hn (cs:=[Bb 0,Bb 0,Bb 0,Bc,Bb 0]) rfl⟩
  apply RJ.store rfl rfl Qa
  ·intro σ W τ hj hc ha hn ⟨hd,hu⟩
   have h9:τ 9=some (σ 9):=ha ⟨9,.data⟩ (by simp) (by decide)
   obtain ⟨b',c',h7⟩:=hj.l9 _ h9;obtain ⟨cs,ps,e7,hS,-⟩:=hj.ans _ h7;simp only [D8,BP,BM,BQ] at e7;obtain ⟨e9,rfl,rfl⟩:=e7;rw [e9] at h7;obtain ⟨q1,r1,q2,r2,q3,r3,q4,r4,q5,r5,q6,r6,q7,r7,ec,-⟩:=hS.now.open;obtain rfl:=Dz ec;exact ⟨_,_,hj.sp,rfl,e9,rfl,by simp,fun W' g2 g3=>hj.set13 q.out h7 g2 g3 rfl _⟩
  apply RJ.store rfl rfl Qh
  ·intro σ W τ hj hc ha hn ⟨hd,hu⟩
   have ah:τ 10=some (σ 10):=ha ⟨10,.data⟩ (by simp) (by decide)
   have D:τ 12=some (σ 12):=ha ⟨12,.data⟩ (by simp) (by decide)
   obtain ⟨b',c',h7⟩:=hj.l10 _ ah;obtain ⟨cs,ps,e7,-,hP⟩:=hj.ans _ h7;simp only [D8,BP,BM,BQ] at e7;obtain ⟨rfl,aS,rfl⟩:=e7;rw [aS] at h7;obtain ⟨q1,r1,ec,-⟩:=hP.now.open;obtain rfl:=Dz ec;obtain ⟨g,C,hg,aq⟩:=hj.new _ D;rw [C] at D;exact ⟨_,_,aq,C,aS,rfl,by simp,fun W' g2 g3=>hj.set14 q.out h7 D hg g2 g3 rfl _⟩
  apply RJ.new rfl
  ·intro σ W τ hj hc ha hn ⟨hd,hu⟩
   have ai:τ 11=some (σ 11):=ha ⟨11,.data⟩ (by simp) (by decide)
   have e11:=hj.l11 _ ai;exact ⟨Bb (YN s m.fin (QG m.tr) m.tmo),W,by go_simp,hj.set15⟩
  intro σ w4 τ hτ hj _ _;have C:=hτ 12 (by simp)
  have aT:=hj.l15 _ (hτ 15 (by simp))
  obtain ⟨ps,x1,x2,g,h7,D,aZ⟩:=hj.p14 _ (hτ 14 (by simp))
  obtain ⟨cs,x3,x4,aF,a8⟩:=hj.p13 _ (hτ 13 (by simp))
  obtain ⟨g',eg,hg,-⟩:=hj.new _ D;obtain rfl:g=g':=by simpa using eg
  obtain ⟨ag,ps',e7,hS,hP⟩:=hj.ans _ h7;rw [h7] at aF;simp only [C4,D8,BP,BM,BQ,BX] at e7 aF;obtain ⟨rfl,rfl,rfl⟩:=e7;obtain ⟨ec,-,-⟩:=aF;obtain rfl:=Dz ec;replace C:σ 12=.pointer (some ⟨g,0,none⟩):=by rw [D] at C;exact (Bu C).symm
  have O:=hid (show Qp N w3.heap.size w4 (.agg ag) _ from hS.wide (fun b hF=>⟨hF.1,hF.2.1⟩) (fun b hF=>hF.2))
  have aE:=hid (show JV N w3.heap.size w4 (.agg ps) _ from hP.wide (fun b hF=>⟨hF.1,hF.2.1⟩) (fun b hF=>hF.2))
  generalize ak:Qh4 s m.fin (QG m.tr) m.tmo=S at *;generalize aj:Qh3 s m.fin (QG m.tr) m.tmo=P at *;obtain ⟨q1,r1,q2,r2,q3,r3,q4,r4,q5,r5,q6,r6,q7,r7,ec,aW⟩:=O.out.now.open;obtain rfl:=Dz ec;obtain ⟨qd,rd,ec,-⟩:=(QM.now aE.out).open;obtain rfl:=Dz ec
  have F4:Fr w [(w.heap.size,28,[.string S.name,Bb S.height,Bb S.time,.slice q1 S.clients.length r1,.slice q2 S.conns.length r2,.slice q3 S.chans.length r3,.slice q4 S.sent.length r4,.slice q5 S.got.length r5,.slice q6 S.acks.length r6,.slice q7 S.purses.length r7]),(w.heap.size+1,53,msC m o c),(w.heap.size+1+1,28,[.string ⟨#[]⟩,Bb 0,Bb 0,Bc,Bc,Bc,Bc,Bc,Bc,Bc]),(w.heap.size+1+1+1,51,[Bb 0,Bb 0,Bb 0,Bc,Bb 0]),(w0.heap.size,49,[.string m.tr.denom,.int .u64 (m.tr.amount:Int),.string m.tr.sender,.string m.tr.reader]),(g,51,[Bb P.src,Bb P.dst,Bb P.seq,.slice qd P.data.length rd,Bb P.tmo])] w4:=by
   refine ⟨aC.out w4 hj.low hj.same,fun r hr=>?_,fun r hr=>?_,?_,Bj _⟩
   ·simp only [Bo,BG,BJ] at hr
    rcases hr with rfl | rfl | rfl | rfl | rfl | rfl
    ·exact a8
    ·exact (d.out w4 hj.same).2
    ·exact (hj.same _ HF.out.r2.lt (by omega)).trans HF.out.r2
    ·exact (hj.same _ HF.out.r3.lt (by omega)).trans HF.out.r3
    ·exact (d.out w4 hj.same).1
    ·exact aZ
   ·simp only [Bo,BG,BJ] at hr
    rcases hr with rfl | rfl | rfl | rfl | rfl | rfl <;> (simp only;omega)
   ·simp;omega
  have au:=hj.low.size;have HL:=hid (show w.heap.size+1+1+1<w3.heap.size by omega)
  simp only [C,aT];clear ak aj C aT hτ hj h7 D aZ a8 eg hg hS hP HF d aC aL aQ aW aP aa av ar;generalize YN s m.fin (QG m.tr) m.tmo=se at *
  by_cases hz:se=0
  ·subst hz
   replace HE:=hid (HE.out.trans (if_neg (by simp)))
   replace M:=hid (M.out.trans (if_pos rfl));replace aD:=hid (aD.out.trans (if_pos rfl));replace I:=hid (I.out rfl);rw [← M.out] at A;rw [← aD.out] at z;have af:=hid (show S.purses=s.purses by rw [M.out];rfl)
   have aN:=hid (show Qt PuR 3 w4 w4.heap.size (.slice q7 S.purses.length r7) s.purses by
    obtain ⟨y1,y2,y3,y4,y5,y6,y7,e,ao⟩:=O.out.now;simp only [BX,BP,BM,BQ,true_and] at e;obtain ⟨-,-,-,-,-,-,rfl⟩:=e;rw [← af.out]
    exact ao.purses)
   have k9:=F4.r0.k10.2.2.2.2.2.2.2.2.2;have aw:w4.cell? ⟨w.heap.size+1,30,none⟩=some (Bb m.fin):=F4.r1.cell 30
   go_wp2_with (refine F4.load 4 rfl Qie ?_)
   refine (I.out _ F4.b _ aN.out).mono ?_;rintro e w5 ⟨aI,uv,rfl,hu⟩;have F5:=F4.go aI;have HU:=hid hu;have aB:=hid aI;obtain ⟨ou,cu,rfl,-⟩:=hu.shape;clear aI hu k9 aw F4 I aN;generalize Qc1 s.purses m.fin.toNat m.tr=le at *;generalize Qcc s.purses m.fin.toNat m.tr=L at *;have aM:=hid (O.out.purses aB.out HU.out au);have aO:=hid (aE.out.below aB.out);generalize L.length=nu at *;clear HU O aE aB;have k9:=F5.r0.k10.2.2.2.2.2.2.2.2.2;have z9:=F5.r0.frozen 9
   go_upto_region 9 with fail
   refine F5.cell 0 rfl ?_;intro w6 F6 O6;have ab:=hid (aM.out.only O6 q.out.1 q.out.2);have ad:=hid (aO.out.only O6 q.out.1 q.out.2);clear k9 z9 O6 F5 aM aO
   by_cases hz:le=0
   ·subst hz
    rw [if_pos HE.out] at A z
    go_upto_region 11 with fail
    have HF:=hid F6;clear F6;apply Qa3 (J:=J2 w6 (w.heap.size+1+1) (w.heap.size+1+1+1) 2 3 28 51 [.string S.name,Bb S.height,Bb S.time,.slice q1 S.clients.length r1,.slice q2 S.conns.length r2,.slice q3 S.chans.length r3,.slice q4 S.sent.length r4,.slice q5 S.got.length r5,.slice q6 S.acks.length r6,.slice ou nu cu] [Bb P.src,Bb P.dst,Bb P.seq,.slice qd P.data.length rd,Bb P.tmo]) (by kernel_rfl) (fun τ W hj=>And.intro (hj.row HF.out.r0 (by omega) (by omega)).k10 (hj.row HF.out.r5 (QkL HF.out.apart (i:=5) (j:=2) rfl rfl (by decide)) (QkL HF.out.apart (i:=5) (j:=3) rfl rfl (by decide))).k5) (J2.start ⟨_,HF.out.r2,rfl⟩ ⟨_,HF.out.r3,rfl⟩) (by kernel_rfl)
    ·intro σ;simp [Qj];exact rfl
    iterate 2 (apply RJ.val (fun τ W h=>h.skip (by decide) (by decide) _) rfl;· intro σ W hc ⟨hd,hu⟩;simp at hd;go_simp;exact rfl)
    apply RJ.store rfl rfl Qa
    ·intro σ W τ hj hc ha hn ⟨hd,hu⟩
     have e0:σ 0=.agg #[.string S.name,Bb S.height,Bb S.time,.slice q1 S.clients.length r1,.slice q2 S.conns.length r2,.slice q3 S.chans.length r3,.slice q4 S.sent.length r4,.slice q5 S.got.length r5,.slice q6 S.acks.length r6,.slice ou nu cu]:=hd ⟨0,.data⟩ (by simp) (by decide)
     exact ⟨_,_,hj.sa,rfl,e0,rfl,by simp,fun W' g2 g3=>hj.puta (by decide) (by omega) g2 g3 _⟩
    apply RJ.store rfl rfl Qh
    ·intro σ W τ hj hc ha hn ⟨hd,hu⟩
     have e1:σ 1=.agg #[Bb P.src,Bb P.dst,Bb P.seq,.slice qd P.data.length rd,Bb P.tmo]:=hd ⟨1,.data⟩ (by simp) (by decide)
     exact ⟨_,_,hj.sb,rfl,e1,rfl,by simp,fun W' g2 g3=>hj.putb (by decide) (by omega) g2 g3 _⟩
    apply RJ.val (fun τ W h=>h.skip (by decide) (by decide) _) rfl;· intro σ W hc ⟨hd,hu⟩;simp at hd;go_simp;exact rfl
    intro σ W τ hτ hj _ hF;simp only [Jm,Bv,By,Nat.reduceAdd] at hF;obtain ⟨-,-,-,-,e4,-⟩:=hF;have H2:=hid (hj.pa _ (hτ 2 (by simp)))
    have H3:=hid (hj.pb _ (hτ 3 (by simp)))
    have HB:=hid (HF.out.b.trans (hj.below (by omega) (by omega) HF.out.b.size))
    have hNG:=q.out;have hL:=HL.out;have ac:=hid (ab.out.on hj.low fun b aJ hF=>hj.same b aJ (by omega) (by omega))
    have ae:=hid (ad.out.past hj.low fun b aJ hF=>hj.same b aJ (by omega) (by omega))
    simp only [e4];clear hτ hj e4;go_wp2;refine Qck results61 rfl rfl H2.out H3.out Qa Qh rfl ⟨HB.out,_,_,by rw [HE.out];rfl,?_⟩
    rw [A.out,z.out];exact ⟨ac.out.lower aK.out,ae.out.lower aK.out⟩
   ·have E:=hid (show ¬ QfN s m=0 by rw [HE.out];exact hz)
    have a9:(le != 0)=true:=by simpa using hz
    rw [if_neg E.out] at A z
    go_wp2_with (first | (refine F6.store 2 rfl Qa (by simp) ?_;intro w7 F7 O7) | (refine F7.store 3 rfl Qh (by simp) ?_;intro w8 F8 O8))
    refine Qck results61 rfl rfl F8.r2 F8.r3 Qa Qh rfl ⟨F8.b,_,_,by rw [HE.out];rfl,?_⟩
    rw [A.out,z.out];exact ⟨Qg _ _ _,Jp _ _ _⟩
  ·replace HE:=hid (HE.out.trans (if_pos hz))
   have E:=hid (show ¬ QfN s m=0 by rw [HE.out];exact hz)
   have a9:(se != 0)=true:=by simpa using hz
   rw [if_neg E.out] at A z
   go_wp2_with (first | (refine F4.store 2 rfl Qa (by simp) ?_;intro w7 F7 O7) | (refine F7.store 3 rfl Qh (by simp) ?_;intro w8 F8 O8))
   refine Qck results61 rfl rfl F8.r2 F8.r3 Qa Qh rfl ⟨F8.b,_,_,by rw [HE.out];rfl,?_⟩
   rw [A.out,z.out];exact ⟨Qg _ _ _,Jp _ _ _⟩
 ·replace HE:=hid (HE.out.trans (if_pos hz))
  have E:=hid (show ¬ QfN s m=0 by rw [HE.out];exact hz)
  have a9:(te != 0)=true:=by simpa using hz
  rw [if_neg E.out] at A z
  go_wp2_with (first | (refine F3.store 2 rfl Qa (by simp) ?_;intro w5 F5 O5) | (refine F5.store 3 rfl Qh (by simp) ?_;intro w6 F6 O6))
  refine Qck results61 rfl rfl F6.r2 F6.r3 Qa Qh rfl ⟨F6.b,_,_,by rw [HE.out];rfl,?_⟩
  rw [A.out,z.out];exact ⟨Qg _ _ _,Jp _ _ _⟩
theorem QlE (s:St) (m:Ms) (o:Nat→Option Addr) (c:Nat→Nat) (v:Value) (N:Nat) (w:World) (hv:StV w N v s) (hN:N≤w.heap.size) (A:s.fits) (C:m.tr.fits) (hw:Qd s=0) :
  Calls prog 65 #[v,.agg (msC m o c).toArray] w fun e w'=>Bd w w'∧∃ v',e=.returned (.tuple #[v',Bb (Qbl s m.tr)])∧Qp N w.heap.size w' v' (Qjr s m.tr):=by
 obtain ⟨o1,c1,o2,c2,o3,c3,o4,c4,o5,c5,o6,c6,o7,c7,rfl,hm⟩:=hv.open;have HM:=hid (fun W (hb:Bd w W)=>hm.below (hb.mono hN))
 have aH:=hid (fun W g (hr:Row W g 9 [.string m.tr.sender,.string m.tr.reader])=>QoW m.tr [m.tr.sender,m.tr.reader] g 2 W C hr rfl (by omega))
 have z:=JG hw A;have aD:=hid (fun W (hb:Bd w W)=>QeZ s.purses m.tr.sender m.tr.reader m.tr.denom m.tr.amount _ N W (Bh hN hb.size) (HM.out W hb).purses z.2 z.1 C.2.1)
 have I:=hid (fun h=>Qbp (a:=m.tr.sender) (b:=m.tr.reader) (d:=m.tr.denom) (n:=m.tr.amount) z.2 z.1 C.2.1 h)
 have HE:=hid (show Qbl s m.tr=if trN m.tr [m.tr.sender,m.tr.reader]≠0 then trN m.tr [m.tr.sender,m.tr.reader] else Qam s.purses m.tr.sender m.tr.reader m.tr.denom m.tr.amount from rfl)
 have q:=hid (show Qjr s m.tr=if Qbl s m.tr=0 then { s with purses:=J8 s.purses m.tr.sender m.tr.reader m.tr.denom m.tr.amount } else St.none from rfl)
 have j:=hid (And.intro (QF hw) A);have hsp:0≤s.purses.length:=BH _;clear hv hm A C hw z
 go_in
 go_upto_region 1 with fail
 refine JP ?_;intro w0 F0 hs;clear hs
 go_upto_region 2 with (refine F0.loadMid 1 50 [.string m.tr.denom,.int .u64 (m.tr.amount:Int),.string m.tr.sender,.string m.tr.reader] rfl rfl rfl rfl rfl Qie ?_)
 refine F0.box ?_;intro w1 F1 aK aI;clear aK aI F0;obtain ⟨a0,a1,a2,a3⟩:=F1.r3.k4
 go_wp2_with fail
 refine QbZ ?_;intro w2 aA M;have F2:=F1.go M;refine (aH.out w2 _ aA).mono ?_;rintro e w3 ⟨rfl,O⟩;have F3:=F2.go O;clear M O aA a0 a1 a2 a3 F1 F2;generalize trN m.tr [m.tr.sender,m.tr.reader]=te at *
 by_cases hz:te=0
 ·subst hz
  rw [if_neg (by simp)] at HE
  have k9:=F3.r0.k10.2.2.2.2.2.2.2.2.2;obtain ⟨a0,a1,a2,a3⟩:=F3.r3.k4
  go_wp2_with fail
  refine (aD.out _ F3.b).mono ?_;rintro e w4 ⟨S,pv,rfl,G⟩;have F4:=F3.go S;have aF:=hid G;have aL:w.heap.size<w3.heap.size:=by have:=F3.r0.lt;omega
  obtain ⟨op,cp,rfl,-⟩:=G.shape;clear S G k9 a0 a1 a2 a3 F3;generalize Qam s.purses m.tr.sender m.tr.reader m.tr.denom m.tr.amount=me at *
  by_cases hz:me=0
  ·subst hz
   have Y:=(I.out rfl).len;have aG:=hid (I.out rfl).right;generalize J8 s.purses m.tr.sender m.tr.reader m.tr.denom m.tr.amount=L at *;rw [if_pos HE.out] at q;have k9:=F4.r0.k10.2.2.2.2.2.2.2.2.2;have z9:=F4.r0.frozen 9
   go_upto_region 9 with fail
   refine F4.cell 0 rfl ?_;intro w5 F5 O5;have aE:=hid ((aF.out.only O5 aL).now);have aB:=hid F5.b
   have aC:=hid (Qrp { s with purses:=L } o1 o2 o3 o4 o5 o6 op c1 c2 c3 c4 c5 c6 cp N w5.heap.size w5 (Qcn (HM.out w5 F5.b) (Bh hN F5.b.size) aE.out) (Qn7 (HM.out w5 F5.b)) (Bh hN F5.b.size) (Bj _) (Qc8 j.out.2 aG.out Y) ⟨j.out.1.1,j.out.1.2.1,j.out.1.2.2.1,j.out.1.2.2.2.1,j.out.1.2.2.2.2.1,j.out.1.2.2.2.2.2.1,by show L.length≤100;omega,j.out.1.2.2.2.2.2.2.2⟩)
   clear k9 z9 O5 F4 Y;generalize L.length=LL at *
   go_wp2_with (refine F5.load 0 rfl Qa ?_)
   refine aC.out.mono ?_;rintro e w6 ⟨T,p1,d1,p2,d2,p3,d3,p4,d4,p5,d5,p6,d6,p7,d7,rfl,D⟩;have F6:=F5.go T;have HH:=hid (D.toOwn.holds);have aJ:=F5.r2.lt;clear T D F5
   go_wp2_with (refine F6.store 2 rfl Qa (by simp) ?_;intro w7 F7 O7)
   refine Ql results65 rfl F7.r2 Qa rfl ⟨F7.b,_,by rw [HE.out];rfl,?_⟩
   rw [q.out];exact (HH.out.only O7 (by omega) aJ).lower aB.out.size
  ·have E:=hid (show ¬ Qbl s m.tr=0 by rw [HE.out];exact hz)
   have aM:(me != 0)=true:=by simpa using hz
   rw [if_neg E.out] at q
   go_wp2_with (refine F4.store 2 rfl Qa (by simp) ?_;intro w7 F7 O7)
   refine Ql results65 rfl F7.r2 Qa rfl ⟨F7.b,_,by rw [HE.out];rfl,?_⟩
   rw [q.out];exact Qg _ _ _
 ·rw [if_pos hz] at HE
  have E:=hid (show ¬ Qbl s m.tr=0 by rw [HE.out];exact hz)
  have aM:(te != 0)=true:=by simpa using hz
  rw [if_neg E.out] at q
  go_wp2_with (refine F3.store 2 rfl Qa (by simp) ?_;intro w7 F7 O7)
  refine Ql results65 rfl F7.r2 Qa rfl ⟨F7.b,_,by rw [HE.out];rfl,?_⟩
  rw [q.out];exact Qg _ _ _
theorem Y0 {s:St} {i st:Int} (h:Qb6 s i st=0):Qd s=0∧(0≤i∧i<(s.conns.length:Int))∧(Yd s i).state=st∧ZO s (Yd s i).client=0:=by
 unfold Qb6 at h
 split at h
 ·rename_i h1;exact absurd h h1
 rename_i h1
 split at h
 ·cases h
 split at h
 ·cases h
 rename_i h2 h3;exact ⟨by simpa using h1,by omega,by simpa using h3,h⟩
theorem QjR (s:St) (v:Value) (N:Nat) (w:World) (c:Int) (hv:StV w N v s) (hN:N≤w.heap.size) (d:s.fits) :
  Calls prog 78 #[v,Bb c] w fun e w'=>e=.returned (Bb (JY s c))∧Bd w w':=by
 have HE:=hid (show JY s c=if Qd s≠0 then Qd s else ZO s c from rfl)
 have C:=hid (fun wx (hx:Bd w wx)=>Qa6 s v N wx (hv.below (hx.mono hN)) (Bh hN hx.size) d)
 have A:=hid (fun (h0:Qd s=0) wx (hx:Bd w wx)=>Qr5 s v N wx c (hv.below (hx.mono hN)) (Bh hN hx.size) h0)
 obtain ⟨o1,c1,o2,c2,o3,c3,o4,c4,o5,c5,o6,c6,o7,c7,rfl,-⟩:=hv.open;clear hv d
 go_in
 go_upto_region 1 with fail
 refine JO ?_;intro w0 F0 hs;clear hs
 go_wp2_with (refine F0.load 0 rfl Qa ?_)
 refine (C.out _ F0.b).mono ?_;rintro e w1 ⟨rfl,j⟩;have F:=F0.go j;clear j F0
 by_cases hz:Qd s=0
 ·have HL:=hid (HE.out.trans (if_neg (by simp [hz])))
  have q:=hid (A.out hz);rw [hz];clear hz
  go_wp2_with (refine F.load 0 rfl Qa ?_)
  refine (q.out _ F.b).mono ?_;rintro e w2 ⟨rfl,m⟩;have HB:=hid (F.go m).b;clear m F;generalize ZO s c=lv at *;go_wp2;go_ret;exact ⟨by rw [HL.out];rfl,HB.out⟩
 ·have e0:(Qd s != 0)=true:=by simpa using hz
  have HL:=hid (HE.out.trans (if_pos hz));have HB:=hid F.b;clear hz F;generalize Qd s=z at *;go_wp2;go_ret;exact ⟨by rw [HL.out];rfl,HB.out⟩
theorem QoE (s:St) (v:Value) (N:Nat) (w:World) (i st:Int) (hv:StV w N v s) (hN:N≤w.heap.size) (d:s.fits) :
  Calls prog 81 #[v,Bb i,Bb st] w fun e w'=>e=.returned (Bb (Qb6 s i st))∧Bd w w':=by
 have HE:=hid (show Qb6 s i st=if Qd s≠0 then Qd s else if i<0∨(s.conns.length:Int)≤i then 6 else if (Yd s i).state≠st then 12 else ZO s (Yd s i).client from rfl)
 have C:=hid (fun wx (hx:Bd w wx)=>Qa6 s v N wx (hv.below (hx.mono hN)) (Bh hN hx.size) d)
 have A:=hid (fun (h0:Qd s=0) (c:Int) wx (hx:Bd w wx)=>Qr5 s v N wx c (hv.below (hx.mono hN)) (Bh hN hx.size) h0)
 obtain ⟨o1,c1,o2,c2,o3,c3,o4,c4,o5,c5,o6,c6,o7,c7,rfl,hm⟩:=hv.open;have HM:=hid hm;clear hv hm d
 go_in
 go_upto_region 1 with fail
 refine JO ?_;intro w0 F0 hs;clear hs
 go_wp2_with (refine F0.load 0 rfl Qa ?_)
 refine (C.out _ F0.b).mono ?_;rintro e w1 ⟨rfl,m⟩;have F:=F0.go m;clear m F0
 by_cases hz:Qd s=0
 ·have HS:=hid (HE.out.trans (if_neg (by simp [hz])))
  have q:=hid (A.out hz);rw [hz];clear hz;have k4:=F.r0.k10.2.2.2.2.1
  by_cases h0:i<0
  ·have e0:decide (i<0)=true:=by simpa using h0
   go_wp2;go_ret;exact ⟨by rw [HS.out,if_pos (.inl h0)];rfl,F.b⟩
  have e0:decide (i<0)=false:=by simpa using h0
  by_cases h1:(s.conns.length:Int)≤i
  ·have e1:decide ((s.conns.length:Int)≤i)=true:=by simpa using h1
   go_wp2;go_ret;exact ⟨by rw [HS.out,if_pos (.inr h1)];rfl,F.b⟩
  have e1:decide ((s.conns.length:Int)≤i)=false:=by simpa using h1
  have j:=hid (HS.out.trans (if_neg (by omega)))
  obtain ⟨k,rfl⟩:∃ k:Nat,i=(k:Int):=⟨i.toNat,by omega⟩
  have hlt':(k:Int)<(s.conns.length:Int):=by omega
  obtain ⟨x,hx⟩:∃ x,s.conns[k]?=some x:=⟨_,Bk (by omega)⟩
  rw [Yp hx] at j;obtain ⟨b,f,rfl,gx⟩:=(HM.out.below (F.b.mono hN)).conns.spot (by omega)
  obtain ⟨E,r,hr,cx⟩:=gx k x hx;subst hr;have x0:=cx 0 _ rfl;have D:=hid (cx 1 _ rfl);simp only [BI] at x0;have G:b<w1.heap.size:=Br E (Bh hN F.b.size);clear gx cx hx HE HS
  by_cases hs:x.state=st
  ·have es:(x.state != st)=false:=by simpa using hs
   have HL:=hid (j.out.trans (if_neg (by simp [hs])))
   clear hs
   go_upto_region 8 with fail
   have HF:=hid F;clear F x0 k4;apply QC (by kernel_rfl) (fun W hb=>And.intro (HF.out.go hb).r0.k10 ((hb.cell (p:=⟨b,f+k*4+1,none⟩) G).trans D.out)) (by kernel_rfl)
   ·intro σ;simp [Qj];exact rfl
   iterate 7 (apply RK.val rfl;· intro σ W hb hc ⟨hd,hu⟩;simp at hd hu;go_simp;exact rfl)
   apply RK.callV rfl
   ·intro σ W hb hc ⟨hd,hu⟩;simp at hd hu;go_simp;exact ⟨rfl,rfl⟩
   ·intro W hb hc;exact q.out x.client W (HF.out.go hb).b
   apply RK.val rfl;· intro σ W hb hc ⟨hd,hu⟩;simp at hd hu;go_simp;exact rfl
   intro σ W hb _;simp only [Jm,Bv,By,Nat.reduceAdd];intro hF;obtain ⟨-,-,-,-,-,-,-,-,e8,-⟩:=hF;have HB:=hid (HF.out.go hb).b;simp only [e8];clear hb e8;go_wp2;go_ret;exact ⟨by rw [HL.out];rfl,HB.out⟩
  ·have es:(x.state != st)=true:=by simpa using hs
   have HL:=hid (j.out.trans (if_pos hs));clear hs;go_wp2;go_ret;exact ⟨by rw [HL.out];rfl,F.b⟩
 ·have e0:(Qd s != 0)=true:=by simpa using hz
  have HL:=hid (HE.out.trans (if_pos hz));have HB:=hid F.b;clear hz F;generalize Qd s=z at *;go_wp2;go_ret;exact ⟨by rw [HL.out];rfl,HB.out⟩
theorem StV.ten {w:World} {N:Nat} {v:Value} {t:St} (h:StV w N v t):∃ a0 a1 a2 a3 a4 a5 a6 a7 a8 a9,v=.agg #[a0,a1,a2,a3,a4,a5,a6,a7,a8,a9]∧(#[a0,a1,a2,a3,a4,a5,a6,a7,a8,a9]:Array Value).all (·.oneCell')=true:=by
 obtain ⟨o1,c1,o2,c2,o3,c3,o4,c4,o5,c5,o6,c6,o7,c7,rfl,-⟩:=h.open;exact ⟨_,_,_,_,_,_,_,_,_,_,rfl,by simp⟩
theorem QbT {s:St} {c:Int} (h:JY s c=0):Qd s=0:=by
 unfold JY at h
 split at h
 ·rename_i h1;exact absurd h h1
 ·rename_i h1;simpa using h1
theorem Qbu {s:St} {c:Int} (h:JY s c=0):ZO s c=0:=by
 unfold JY at h
 split at h
 ·rename_i h1;exact absurd h h1
 ·exact h
theorem Qao {a b c d:Int} (h1:1≤a∧a≤3) (h2:0≤b∧b≤1000000000000) (h3:0≤c∧c≤1000000000000) (h4 : -1≤d∧d≤1000000000000):Jf ⟨a,b,c,d⟩=0:=by
 unfold Jf;rw [if_neg (by simp;omega),if_neg]
 simp [Qs];omega
theorem QrO (s:St) (v:Value) (N:Nat) (w:World) (c o:Int) (hv:StV w N v s) (hN:N≤w.heap.size) (d:s.fits) :
  Calls prog 50 #[v,Bb c,Bb o] w fun e w'=>Bd w w'∧∃ v',e=.returned (.tuple #[v',Bb (Qla s (Qat s c o)),Bb (Qat s c o)])∧Qp N w.heap.size w' v' (QlL s c o):=by
 have E:=hid (fun wx (hx:Bd w wx)=>QjR s v N wx c (hv.below (hx.mono hN)) (Bh hN hx.size) d)
 have C:=hid (fun (h:JY s c=0) wx (hx:Bd w wx)=>QiZ s v N wx ⟨1,c,o,-1⟩ (hv.below (hx.mono hN)) (Bh hN hx.size) d (QF (QbT h)))
 have HI:=hid (show Qat s c o=if (JY s c != 0)=true then JY s c else if (!Qs 0 o)=true then 3 else QbN s by simp [Qat])
 have HS:=hid (show QlL s c o=QmR s (Qat s c o) ⟨1,c,o,-1⟩ from rfl);obtain ⟨o1,c1,o2,c2,o3,c3,o4,c4,o5,c5,o6,c6,o7,c7,rfl,hm⟩:=hv.open;clear hv hm d
 go_in
 go_upto_region 1 with fail
 refine QbK ?_;intro w0 F0 hs
 go_wp2_with (refine F0.load 0 rfl Qa ?_)
 refine (E.out _ F0.b).mono ?_;rintro e w1 ⟨rfl,q⟩;have F:=F0.go q;clear q F0 hs
 cases e0:(JY s c != 0)
 cases e1:Qs 0 o
 rotate_left
 ·replace HI:=hid (show Qat s c o=QbN s by rw [HI.out];simp [e0,e1])
  have HA:=hid (C.out (by simpa using e0))
  go_wp2_with (first | (go_at_call 14;refine (Jz _ _ _).mono ?_;rintro e w' ⟨rfl,m⟩;obtain rfl:=m.symm) | refine F.load 0 rfl Qa ?_)
  refine (HA.out _ F.b).mono ?_;rintro e w4 ⟨z,v',rfl,j⟩;have F4:=F.go z;have hg:=F.r1.lt;obtain ⟨a0,a1,a2,a3,a4,a5,a6,a7,a8,a9,rfl,A⟩:=j.now.ten;have G:=hid j;have D:=hid A;have hz:=F.sz;clear z j A F
  go_wp2_with (refine F4.store 1 rfl Qa D.out ?_;intro w5 F5 O5)
  refine J9 results50 rfl F5.r1 Qa rfl ⟨F5.b,_,by rw [HI.out];rfl,?_⟩
  rw [HS.out,HI.out];exact (G.out.only O5 (by omega) hg).lower hz
 all_goals
  have hn:Qat s c o≠0:=by rw [HI.out];grind
  have HN:=hid (show Qla s (Qat s c o)=0 from if_neg hn);replace HS:=hid (HS.out.trans (if_neg hn));replace HI:=hid (HI.out.trans (by simp only [*];rfl))
  clear hn
  go_wp2_with (first | (go_at_call 14;refine (Jz _ _ _).mono ?_;rintro e w' ⟨rfl,m⟩;obtain rfl:=m.symm) | refine F.store 1 rfl Qa (by simp) ?_;intro wz FZ OZ)
  refine J9 results50 rfl FZ.r1 Qa rfl ⟨FZ.b,_,by rw [HN.out,HI.out];rfl,?_⟩
  rw [HS.out];exact Qg _ _ _
theorem Quv (s:St) (v A:Value) (N:Nat) (w:World) (c o q z:Int) (h:Sh) (hv:StV w N v s) (hh:ShV w N A h) (hN:N≤w.heap.size) (d:s.fits) (L:h.fits) (m:Qi w) (j:QL w) (hz:QmT s c o q h z) :
  Calls prog 51 #[v,Bb c,Bb o,Bb q,A] w fun e w'=>Bd w w'∧∃ v',e=.returned (.tuple #[v',Bb (Qla s (Qco s c o q z)),Bb (Qco s c o q z)])∧Qp N w.heap.size w' v' (Qtc s c o q z):=by
 have Y:=hid (fun wx (hx:Bd w wx)=>QjR s v N wx c (hv.below (hx.mono hN)) (Bh hN hx.size) d)
 have O:=hid (fun (h:JY s c=0) wx (hx:Bd w wx)=>QiZ s v N wx ⟨2,c,o,q⟩ (hv.below (hx.mono hN)) (Bh hN hx.size) d (QF (QbT h)))
 have S:=hid (fun (hs:JY s c=0) (h1:Qs 0 o=true) (h2:Qs 0 q=true) wx (hx:Bd w wx)=>QoM s v A N wx c q z ⟨1,o,c,-1⟩ h (hv.below (hx.mono hN)) (hh.below (hx.mono hN)) (Bh hN hx.size) d L (m.past hx) (j.below hx) (Qak (Qbu hs)) ((Q6 _ _).1 h2) (Qao (by omega) ((Q6 _ _).1 h1) (by have:=Qak (Qbu hs);have:=(QF (QbT hs)).1;omega) (by omega)) hz)
 have HI:=hid (show Qco s c o q z=if (JY s c != 0)=true then JY s c else if (!Qs 0 o)=true then 3 else if (!Qs 0 q)=true then 3 else if (z != 0)=true then z else QbN s by unfold Qco;grind)
 have HS:=hid (show Qtc s c o q z=QmR s (Qco s c o q z) ⟨2,c,o,q⟩ from rfl);obtain ⟨o1,c1,o2,c2,o3,c3,o4,c4,o5,c5,o6,c6,o7,c7,rfl,hm⟩:=hv.open;obtain ⟨q1,e1,q2,e2,q3,e3,r1,s1,r2,s2,r3,s3,r4,s4,r5,s5,r6,s6,rfl,-⟩:=hh.open;clear hv hm hh d L m j hz
 go_in
 go_upto_region 1 with fail
 refine JP ?_;intro w0 F0 hs
 go_wp2_with (refine F0.load 0 rfl Qa ?_)
 refine (Y.out _ F0.b).mono ?_;rintro e w1 ⟨rfl,E⟩;have F:=F0.go E;clear E F0 hs
 cases e0:(JY s c != 0)
 cases e1:Qs 0 o
 rotate_left
 cases e2:Qs 0 q
 rotate_left
 ·have h0:JY s c=0:=by simpa using e0
  have HA:=hid (O.out h0);have HM:=hid (S.out h0 e1 e2);replace HI:=hid (HI.out.trans (by simp only [e0,e1,e2];rfl))
  clear h0
  go_upto_region 7 with (go_at_call 14;refine (Jz _ _ _).mono ?_;rintro e w' ⟨rfl,D⟩;obtain rfl:=D.symm)
  refine F.box ?_;intro w2 F2 aC aB;clear aC aB F
  go_wp2_with (first | refine F2.load 0 rfl Qa ?_ | refine F2.load 1 rfl QN ?_ | refine F2.load 3 rfl YW ?_)
  refine (HM.out _ F2.b).mono ?_;rintro e w3 ⟨rfl,G⟩;have F:=F2.go G;clear G F2
  cases e3:(z != 0)
  ·replace HI:=hid (show Qco s c o q z=QbN s by rw [HI.out];simp [e3])
   go_wp2_with (refine F.load 0 rfl Qa ?_)
   refine (HA.out _ F.b).mono ?_;rintro e w4 ⟨I,v',rfl,C⟩;have F4:=F.go I;have hg:=F.r2.lt;obtain ⟨a0,a1,a2,a3,a4,a5,a6,a7,a8,a9,rfl,M⟩:=C.now.ten;have aA:=hid C;have T:=hid M;have hz:=F.sz;clear I C M F
   go_wp2_with (refine F4.store 2 rfl Qa T.out ?_;intro w5 F5 O5)
   refine J9 results51 rfl F5.r2 Qa rfl ⟨F5.b,_,by rw [HI.out];rfl,?_⟩
   rw [HS.out,HI.out];exact (aA.out.only O5 (by omega) hg).lower hz
  ·have hn:Qco s c o q z≠0:=by rw [HI.out];grind
   have HN:=hid (show Qla s (Qco s c o q z)=0 from if_neg hn);replace HS:=hid (HS.out.trans (if_neg hn));replace HI:=hid (show Qco s c o q z=z by rw [HI.out];simp [e3])
   clear hn
   go_wp2_with (refine F.store 2 rfl Qa (by simp) ?_;intro wz FZ OZ)
   refine J9 results51 rfl FZ.r2 Qa rfl ⟨FZ.b,_,by rw [HN.out,HI.out];rfl,?_⟩
   rw [HS.out];exact Qg _ _ _
 all_goals
  have hn:Qco s c o q z≠0:=by rw [HI.out];grind
  have HN:=hid (show Qla s (Qco s c o q z)=0 from if_neg hn);replace HS:=hid (HS.out.trans (if_neg hn));replace HI:=hid (HI.out.trans (by simp only [*];rfl))
  clear hn
  go_wp2_with (first | (go_at_call 14;refine (Jz _ _ _).mono ?_;rintro e w' ⟨rfl,D⟩;obtain rfl:=D.symm) | refine F.store 2 rfl Qa (by simp) ?_;intro wz FZ OZ)
  refine J9 results51 rfl FZ.r2 Qa rfl ⟨FZ.b,_,by rw [HN.out,HI.out];rfl,?_⟩
  rw [HS.out];exact Qg _ _ _
theorem Qtz (s:St) (v D:Value) (N:Nat) (w:World) (i q z:Int) (h:Sh) (hv:StV w N v s) (hh:ShV w N D h) (hN:N≤w.heap.size) (d:s.fits) (M:h.fits) (A:Qi w) (m:QL w) (hz:Qj5 s i q h z) :
  Calls prog 52 #[v,Bb i,Bb q,D] w fun e w'=>Bd w w'∧∃ v',e=.returned (.tuple #[v',Bb (Qiu s i q z)])∧Qp N w.heap.size w' v' (Qq3 s i q z):=by
 have S:=hid (fun wx (hx:Bd w wx)=>QoE s v N wx i 1 (hv.below (hx.mono hN)) (Bh hN hx.size) d)
 have Y:=hid (fun (k:Nat) (x:Cn) (C:i=(k:Int)) (hx:s.conns[k]?=some x) (hs:Qb6 s i 1=0) (h2:Qs 0 q=true) wx (j:Bd w wx) =>
  QhO s v D N wx i 2 z ⟨x.state,x.client,x.oclient,q⟩ h (hv.below (j.mono hN)) (hh.below (j.mono hN)) (Bh hN j.size) d M (A.past j) (m.below j) (Y0 hs).1 (Y0 hs).2.1 (by have:=Qak (Y0 hs).2.2.2;rw [C,Yp hx] at this;exact this) ((Q6 _ _).1 h2) (Zo ((QD (Y0 hs).1).conns x (Bn hx))).2.2.1 (by omega) (by have:=hz;unfold Qj5 at this;rw [C,Yp hx] at this;rw [C];exact this))
 have HI:=hid (show Qiu s i q z=if (Qb6 s i 1 != 0)=true then Qb6 s i 1 else if (!Qs 0 q)=true then 3 else z by simp [Qiu])
 have HS:=hid (show Qq3 s i q z=Qmd s (Qiu s i q z) i ⟨3,(Yd s i).client,(Yd s i).oclient,q⟩ from rfl);obtain ⟨o1,c1,o2,c2,o3,c3,o4,c4,o5,c5,o6,c6,o7,c7,rfl,hm⟩:=hv.open;obtain ⟨q1,e1,q2,e2,q3,e3,r1,s1,r2,s2,r3,s3,r4,s4,r5,s5,r6,s6,rfl,-⟩:=hh.open;have HM:=hid hm;clear hv hm hh d M A m hz
 go_in
 go_upto_region 1 with fail
 refine JP ?_;intro w0 F0 hs
 go_wp2_with (refine F0.load 0 rfl Qa ?_)
 refine (S.out _ F0.b).mono ?_;rintro e w1 ⟨rfl,I⟩;have F:=F0.go I;clear I F0 hs
 cases e0:(Qb6 s i 1 != 0)
 cases e1:Qs 0 q
 rotate_left
 ·have e2:Qb6 s i 1=0:=by simpa using e0
  obtain ⟨k,rfl⟩:∃ k:Nat,i=(k:Int):=⟨i.toNat,by have:=Y0 e2;omega⟩
  have hlt:=(Y0 e2).2.1.2;obtain ⟨x,hx⟩:∃ x,s.conns[k]?=some x:=⟨_,Bk (by omega)⟩
  have aA:=hid (Y.out k x rfl hx e2 e1);rw [Yp hx] at HS;replace HI:=hid (show Qiu s (k:Int) q z=z by rw [HI.out];simp [e0,e1])
  obtain ⟨b,f,rfl,hb,x0,x1,x2,x3⟩:=(HM.out.below (F.b.mono hN)).conns.conn rfl hx;have k4:=F.r0.k10.2.2.2.2.1;clear e2 hx
  go_upto_region 7 with (go_at_call 14;refine (Jz _ _ _).mono ?_;rintro e w' ⟨rfl,G⟩;obtain rfl:=G.symm)
  refine F.box ?_;intro w2 F2 aD aC;clear x0 x1 x2 x3 k4 aD aC F;have a3:=F2.r3.k4.2.2.2;have z3:=F2.r3.frozen 3
  go_upto_region 8 with fail
  refine F2.cell 3 rfl ?_;intro w3 F3 O3;clear a3 z3 O3 F2
  go_wp2_with (first | refine F3.load 0 rfl Qa ?_ | refine F3.load 1 rfl QN ?_ | refine F3.load 3 rfl YW ?_)
  refine (aA.out _ F3.b).mono ?_;rintro e w4 ⟨L,v',rfl,E⟩;have F4:=F3.go L;have hg:=F3.r2.lt;obtain ⟨a0,a1,a2,a3,a4,a5,a6,a7,a8,a9,rfl,O⟩:=E.now.ten;have aB:=hid E;have T:=hid O;have aE:=F3.sz;clear L E O F3
  go_wp2_with (refine F4.store 2 rfl Qa T.out ?_;intro w5 F5 O5)
  refine Ql results52 rfl F5.r2 Qa rfl ⟨F5.b,_,by rw [HI.out];rfl,?_⟩
  rw [HS.out,HI.out];exact (aB.out.only O5 (by omega) hg).lower aE
 all_goals
  replace HS:=hid (HS.out.trans (if_neg (by rw [HI.out];grind)))
  replace HI:=hid (HI.out.trans (by simp only [*];rfl))
  go_wp2_with (first | (go_at_call 14;refine (Jz _ _ _).mono ?_;rintro e w' ⟨rfl,G⟩;obtain rfl:=G.symm) | refine F.store 2 rfl Qa (by simp) ?_;intro wz FZ OZ)
  refine Ql results52 rfl FZ.r2 Qa rfl ⟨FZ.b,_,by rw [HI.out];rfl,?_⟩
  rw [HS.out];exact Qg _ _ _
theorem Qrn (s:St) (v C:Value) (N:Nat) (w:World) (i z:Int) (h:Sh) (hv:StV w N v s) (hh:ShV w N C h) (hN:N≤w.heap.size) (d:s.fits) (I:h.fits) (q:Qi w) (m:QL w) (hz:QgB s i h z) :
  Calls prog 53 #[v,Bb i,C] w fun e w'=>Bd w w'∧∃ v',e=.returned (.tuple #[v',Bb (QcT s i z)])∧Qp N w.heap.size w' v' (Qlp s i z):=by
 have M:=hid (fun wx (hx:Bd w wx)=>QoE s v N wx i 2 (hv.below (hx.mono hN)) (Bh hN hx.size) d)
 have S:=hid (fun (k:Nat) (x:Cn) (A:i=(k:Int)) (hx:s.conns[k]?=some x) (hs:Qb6 s i 2=0) (h2:decide (x.oconn<0)=false) wx (j:Bd w wx) =>
  have hr:=Zo ((QD (Y0 hs).1).conns x (Bn hx))
  QhO s v C N wx i 3 z x h (hv.below (j.mono hN)) (hh.below (j.mono hN)) (Bh hN j.size) d I (q.past j) (m.below j) (Y0 hs).1 (Y0 hs).2.1 (by have:=Qak (Y0 hs).2.2.2;rw [A,Yp hx] at this;exact this) (by simp at h2;omega) hr.2.2.1 (by omega) (by have:=hz;unfold QgB at this;rw [A,Yp hx] at this;rw [A];exact this))
 have HI:=hid (show QcT s i z=if (Qb6 s i 2 != 0)=true then Qb6 s i 2 else if decide ((Yd s i).oconn<0)=true then 8 else z by simp [QcT])
 have HS:=hid (show Qlp s i z=Qmd s (QcT s i z) i ⟨3,(Yd s i).client,(Yd s i).oclient,(Yd s i).oconn⟩ from rfl);obtain ⟨o1,c1,o2,c2,o3,c3,o4,c4,o5,c5,o6,c6,o7,c7,rfl,hm⟩:=hv.open;obtain ⟨q1,e1,q2,e2,q3,e3,r1,s1,r2,s2,r3,s3,r4,s4,r5,s5,r6,s6,rfl,-⟩:=hh.open;have HM:=hid hm;clear hv hm hh d I q m hz
 go_in
 go_upto_region 1 with fail
 refine JP ?_;intro w0 F0 hs
 go_wp2_with (refine F0.load 0 rfl Qa ?_)
 refine (M.out _ F0.b).mono ?_;rintro e w1 ⟨rfl,E⟩;have F:=F0.go E;clear E F0 hs
 cases e0:(Qb6 s i 2 != 0)
 ·have e2:Qb6 s i 2=0:=by simpa using e0
  obtain ⟨k,rfl⟩:∃ k:Nat,i=(k:Int):=⟨i.toNat,by have:=Y0 e2;omega⟩
  have hlt:=(Y0 e2).2.1.2;obtain ⟨x,hx⟩:∃ x,s.conns[k]?=some x:=⟨_,Bk (by omega)⟩
  have T:=hid (S.out k x rfl hx e2);rw [Yp hx] at HS HI;obtain ⟨b,f,rfl,hb,x0,x1,x2,x3⟩:=(HM.out.below (F.b.mono hN)).conns.conn rfl hx;have k4:=F.r0.k10.2.2.2.2.1;clear e2 hx
  go_upto_region 5 with fail
  refine F.box ?_;intro w3 F3 aB aA;clear x0 x1 x2 x3 k4 aB aA F;have a3:=F3.r3.k4.2.2.2
  cases e1:decide (x.oconn<0)
  ·replace HI:=hid (show QcT s (k:Int) z=z by rw [HI.out];simp [e0,e1])
   go_wp2_with (first | refine F3.load 0 rfl Qa ?_ | refine F3.load 1 rfl QN ?_ | refine F3.load 3 rfl YW ?_)
   refine (T.out e1 _ F3.b).mono ?_;rintro e w4 ⟨G,v',rfl,D⟩;have F4:=F3.go G;have hg:=F3.r2.lt;obtain ⟨a0,a1,a2,a3,a4,a5,a6,a7,a8,a9,rfl,L⟩:=D.now.ten;have Y:=hid D;have O:=hid L;have aC:=F3.sz;clear G D L F3
   go_wp2_with (refine F4.store 2 rfl Qa O.out ?_;intro w5 F5 O5)
   refine Ql results53 rfl F5.r2 Qa rfl ⟨F5.b,_,by rw [HI.out];rfl,?_⟩
   rw [HS.out,HI.out];exact (Y.out.only O5 (by omega) hg).lower aC
  ·replace HI:=hid (show QcT s (k:Int) z=8 by rw [HI.out];simp [e0,e1])
   go_wp2_with (refine F3.store 2 rfl Qa (by simp) ?_;intro wz FZ OZ)
   refine Ql results53 rfl FZ.r2 Qa rfl ⟨FZ.b,_,by rw [HI.out];rfl,?_⟩
   rw [HS.out,HI.out];exact Qg _ _ _
 ·replace HI:=hid (HI.out.trans (if_pos e0))
  replace HS:=hid (HS.out.trans (if_neg (by rw [HI.out];simpa using e0)))
  go_wp2_with (refine F.store 2 rfl Qa (by simp) ?_;intro wz FZ OZ)
  refine Ql results53 rfl FZ.r2 Qa rfl ⟨FZ.b,_,by rw [HI.out];rfl,?_⟩
  rw [HS.out];exact Qg _ _ _
theorem Jn.putChans {N base:Nat} {w w':World} {s:St} {v1 v2 v3 v4 v5 v6 v7:Value} (h:Jn N base w s v1 v2 v3 v4 v5 v6 v7) {d:Value} {l:List Ch} (hg:w.grownBy w' v3.ownBlock) (hl:Jy 86 Qr 7 w' base d l) (hn:∀ b,d.ownBlock=some b→v3.ownBlock=some b∨w.heap.size≤b) :
  Jn N base w' { s with chans:=l } v1 v2 d v4 v5 v6 v7:=by
 obtain ⟨F,h0,h1,h2,h3,h4,h5,h6,h7,k2,k3,k7⟩:=h
 have z:∀ i b,(i=1∨i=4∨i=5∨i=6)→F i b→b<w.heap.size:=fun i b hi hF=>by
  rcases hi with rfl | rfl | rfl | rfl
  ·exact h1.1 b hF
  ·exact h4.1 b hF
  ·exact h5.1 b hF
  ·exact h6.1 b hF
 refine ⟨fun i b=>(i=3∧d.ownBlock=some b)∨(i=2∧v2.ownBlock=some b)∨(i=7∧v7.ownBlock=some b)∨((i=1∨i=4∨i=5∨i=6)∧F i b),fun i b hF=>?_,?_⟩
 ·rcases hF with ⟨rfl,e⟩ | ⟨rfl,e⟩ | ⟨rfl,e⟩ | ⟨_,hF⟩
  ·exact .inr (hl.own b e).1
  ·exact h0 2 b (k2 b e).1
  ·exact h0 7 b (k7 b e).1
  ·exact h0 i b hF
 ·have H:∀ (i:Nat) (P:World→Prop),(i=1∨i=4∨i=5∨i=6)→QM (F i) w P→QM (fun b=>(i=3∧d.ownBlock=some b)∨(i=2∧v2.ownBlock=some b)∨(i=7∧v7.ownBlock=some b)∨((i=1∨i=4∨i=5∨i=6)∧F i b)) w' P:=fun i P hi hP=>by
   have m:=hP.grown hg (fun b e=>(k3 b e).2 i (by omega))
   exact m.wide (fun b hF=>.inr (.inr (.inr ⟨hi,hF⟩))) (fun b hF=>by
    rcases hF with ⟨rfl,_⟩ | ⟨rfl,_⟩ | ⟨rfl,_⟩ | ⟨_,hF⟩
    ·omega
    ·omega
    ·omega
    ·exact m.1 b hF)
  have n2:∀ b,v2.ownBlock=some b→some b≠v3.ownBlock:=fun b e e2=>(k2 b e).2 3 (by omega) (k3 b e2.symm).1
  have n7:∀ b,v7.ownBlock=some b→some b≠v3.ownBlock:=fun b e e2=>(k7 b e).2 3 (by omega) (k3 b e2.symm).1
  have q:∀ b,v2.ownBlock=some b→v7.ownBlock≠some b:=fun b e e2=>(k2 b e).2 7 (by omega) (k7 b e2).1
  refine ⟨H 1 _ (.inl rfl) h1,h2.keep fun b e=>hg.block b (h2.own b e).2 (n2 b e),hl,H 4 _ (.inr (.inl rfl)) h4,H 5 _ (.inr (.inr (.inl rfl))) h5,H 6 _ (.inr (.inr (.inr rfl))) h6,h7.keep fun b e=>hg.block b (h7.own b e).2 (n7 b e),fun b e=>⟨.inr (.inl ⟨rfl,e⟩),fun i hi hF=>?_⟩,fun b e=>⟨.inl ⟨rfl,e⟩,fun i hi hF=>?_⟩,fun b e=>⟨.inr (.inr (.inl ⟨rfl,e⟩)),fun i hi hF=>?_⟩⟩
  ·rcases hF with ⟨rfl,e'⟩ | ⟨rfl,e'⟩ | ⟨rfl,e'⟩ | ⟨j,hF⟩
   ·rcases hn b e' with e2 | hge
    ·exact n2 b e e2.symm
    ·have:=(h2.own b e).2;omega
   ·exact hi rfl
   ·exact q b e e'
   ·exact (k2 b e).2 i (by omega) hF
  ·rcases hF with ⟨rfl,_⟩ | ⟨rfl,e'⟩ | ⟨rfl,e'⟩ | ⟨j,hF⟩
   ·exact hi rfl
   ·rcases hn b e with e2 | hge
    ·exact n2 b e' e2.symm
    ·have:=(h2.own b e').2;omega
   ·rcases hn b e with e2 | hge
    ·exact n7 b e' e2.symm
    ·have:=(h7.own b e').2;omega
   ·rcases hn b e with e2 | hge
    ·exact (k3 b e2).2 i (by omega) hF
    ·have:=z i b j hF;omega
  ·rcases hF with ⟨rfl,e'⟩ | ⟨rfl,e'⟩ | ⟨rfl,e'⟩ | ⟨j,hF⟩
   ·rcases hn b e' with e2 | hge
    ·exact n7 b e e2.symm
    ·have:=(h7.own b e).2;omega
   ·exact q b e' e
   ·exact hi rfl
   ·exact (k7 b e).2 i (by omega) hF
theorem Qg2 (s:St) (v:Value) (N:Nat) (w:World) (o:Ch) (hv:StV w N v s) (hN:N≤w.heap.size) (q:s.fits) (d:few s) :
  Calls prog 84 #[v,.agg #[Bb o.state,.bool o.ordered,Bb o.conn,Bb o.ochan,Bb o.send,Bb o.recv,Bb o.ack]] w fun e w'=>Bd w w'∧∃ v',e=.returned (.tuple #[v',Bb (QcL s (Y2 s)),Bb (Y2 s)])∧Qp N w.heap.size w' v' (QgN s (Y2 s) (⟨o.state,o.ordered,o.conn,o.ochan,1,1,1⟩:Ch)):=by
 have aA:=hid (fun wx (hx:Bd w wx)=>Qls s v N wx (hv.below (hx.mono hN)) (Bh hN hx.size) q d)
 have hlc:s.chans.length≤100:=d.2.2.1;obtain ⟨o1,c1,o2,c2,o3,c3,o4,c4,o5,c5,o6,c6,o7,c7,rfl,hm⟩:=hv.open;clear hv hm q d
 go_in
 go_upto_region 1 with fail
 refine JP ?_;intro w0 F hs;have k5:=F.r0.k10.2.2.2.2.2.1
 by_cases h8:8≤s.chans.length
 ·have e8:decide ((8:Int)≤(s.chans.length:Int))=true:=by simp;omega
  have HM:=hid (show Y2 s=5 from if_pos h8)
  go_wp2_with (refine F.store 2 rfl Qa (by simp) ?_;intro w1 F1 O1)
  refine J9 results84 rfl F1.r2 Qa rfl ⟨F1.b,_,by rw [HM.out];rfl,?_⟩
  rw [HM.out];exact Qg _ _ _
 ·have e8:decide ((8:Int)≤(s.chans.length:Int))=false:=by simp;omega
  have HM:=hid (show Y2 s=0 from if_neg h8);obtain ⟨a0,a1,a2,a3,a4,a5,a6⟩:=F.r1.k7;have z4:=F.r1.frozen 4;have z5:=F.r1.frozen 5;have z6:=F.r1.frozen 6
  go_upto_region 5 with fail
  refine (((F.set1 1 4 _ rfl).set1 1 5 _ rfl).set1 1 6 _ rfl).named (((JH.refl (w.heap.size+1) w0).cell 4 _).cell 5 _ |>.cell 6 _) ?_;intro w1 F1 O1;clear a0 a1 a2 a3 a4 a5 a6 z4 z5 z6 k5 hs O1;obtain ⟨k0,k1,k2,k3,k4,k5,k6,k7,k8,k9⟩:=F1.r0.k10
  go_wp2_with fail
  refine (aA.out _ F1.b).mono ?_;rintro e w2 ⟨D,p1,d1,p2,d2,p3,d3,p4,d4,p5,d5,p6,d6,p7,d7,rfl,A⟩;have F2:=F1.go D;have L:=F1.r0.lt;have aG:=F1.r2.lt;have hsz2:=D.size;clear D k0 k1 k2 k3 k4 k5 k6 k7 k8 k9;have aB:=hid A;clear A
  go_upto_region 6 with (refine F2.store 0 rfl Qa (by simp) ?_;intro w3 F3 O3)
  have aC:=hid (aB.out.only O3 hN L);have C:=O3.size;have k5:=F3.r0.k10.2.2.2.2.2.1;obtain ⟨a0,a1,a2,a3,a4,a5,a6⟩:=F3.r1.k7;have aF:=hid C;clear C
  go_wp2_with (at_builtin;refine Hid.out ?_)
  refine hid ?_;refine Qu0 ?_;intro w4 T m;have G:=hid (aC.out.below m);have Y:=m.size;have aI:=aF.out;refine ZK QsF rfl _ _ rfl w1.heap.size _ (s.chans.map Qr) rfl G.out.chans _ _ (Qr (⟨o.state,o.ordered,o.conn,o.ochan,1,1,1⟩:Ch)) rfl (QgF T) (Qd8 (l:=[(⟨o.state,o.ordered,o.conn,o.ochan,1,1,1⟩:Ch)])) (by simp;omega) (by omega) ?_
  intro g da w5 j I M z;have F4:=F3.go m;have F5:=F4.past I (by omega) F1.lts
  have O:(s.chans.map Qr).length+1=(s.chans ++ [(⟨o.state,o.ordered,o.conn,o.ochan,1,1,1⟩:Ch)]).length:=by simp
  rw [O] at j ⊢;obtain ⟨pa,S⟩:∃ pa:Option Addr,some ⟨g,0,none⟩=pa:=⟨_,rfl⟩;have hrow':Jy 86 Qr 7 w5 w1.heap.size (.slice (some ⟨g,0,none⟩) (s.chans ++ [(⟨o.state,o.ordered,o.conn,o.ochan,1,1,1⟩:Ch)]).length da) (s.chans ++ [(⟨o.state,o.ordered,o.conn,o.ochan,1,1,1⟩:Ch)]):=by have:=j;rw [show s.chans.map Qr ++ [Qr (⟨o.state,o.ordered,o.conn,o.ochan,1,1,1⟩:Ch)]=(s.chans ++ [(⟨o.state,o.ordered,o.conn,o.ochan,1,1,1⟩:Ch)]).map Qr by simp] at this;exact this
  have E:=G.out.putChans M hrow' (fun b e=>by obtain rfl:g=b:=(by simpa [Value.ownBlock] using e);exact z.imp id (fun h=>by omega))
  rw [S] at E ⊢;have aD:=hid E;clear j hrow' E I M z S m aI Y T k5 a0 a1 a2 a3 a4 a5 a6 O;generalize aH:(s.chans ++ [(⟨o.state,o.ordered,o.conn,o.ochan,1,1,1⟩:Ch)]).length=ln at *;clear aH;have g5:=F5.r0.k10.2.2.2.2.2.1;have z5:=F5.r0.frozen 5
  go_upto_region 7 with fail
  refine F5.cell 0 rfl ?_;intro w6 F6 O6;have aE:=hid (aD.out.only O6 hN L);clear g5 z5 O6 O3;obtain ⟨k0,k1,k2,k3,k4,k5,k6,k7,k8,k9⟩:=F6.r0.k10
  go_wp2_with (refine F6.store 2 rfl Qa (by simp) ?_;intro w7 F7 O7)
  refine J9 results84 rfl F7.r2 Qa rfl ⟨F7.b,_,by rw [HM.out];rfl,?_⟩
  rw [HM.out];exact ((aE.out.only O7 (by omega) aG).lower (by omega)).holds
theorem Qby (s:St) (v:Value) (N:Nat) (w:World) (i:Int) (o:Ch) (hv:StV w N v s) (hN:N≤w.heap.size) (A:s.fits) (m:few s) (hi:0≤i∧i<(s.chans.length:Int)) :
  Calls prog 87 #[v,Bb i,.agg #[Bb o.state,.bool o.ordered,Bb o.conn,Bb o.ochan,Bb o.send,Bb o.recv,Bb o.ack]] w fun e w'=>Bd w w'∧∃ v',e=.returned v'∧Qp N w.heap.size w' v' { s with chans:=s.chans.set i.toNat o }:=by
 have M:=hid (fun wx (hx:Bd w wx)=>Qls s v N wx (hv.below (hx.mono hN)) (Bh hN hx.size) A m)
 have hlc:s.chans.length≤100:=m.2.2.1;obtain ⟨k,rfl⟩:∃ k:Nat,i=(k:Int):=⟨i.toNat,by omega⟩
 obtain ⟨x,hx⟩:∃ x,s.chans[k]?=some x:=⟨_,Bk (by omega)⟩
 have HX:=hid hx;obtain ⟨o1,c1,o2,c2,o3,c3,o4,c4,o5,c5,o6,c6,o7,c7,rfl,hm⟩:=hv.open;clear hv hm A m hx
 go_in
 go_upto_region 1 with fail
 refine JP ?_;intro w0 F hs;obtain ⟨k0,k1,k2,k3,k4,k5,k6,k7,k8,k9⟩:=F.r0.k10
 go_wp2_with fail
 refine (M.out _ F.b).mono ?_;rintro e w2 ⟨I,p1,d1,p2,d2,p3,d3,p4,d4,p5,d5,p6,d6,p7,d7,rfl,C⟩;have F2:=F.go I;have T:=F.r0.lt;have Y:=F.r2.lt;have hg1:=F.r1.lt;clear I k0 k1 k2 k3 k4 k5 k6 k7 k8 k9 hs;have O:=hid C;clear C
 go_upto_region 2 with (refine F2.store 0 rfl Qa (by simp) ?_;intro w3 F3 O3)
 have z:=O.out.only O3 hN T;obtain ⟨g,rfl,aA,hgl,d,j⟩:=Qf.at z.chans (r:=Qr x) (i:=k) (by rw [Bt,HX.out];rfl)
 have f0:=d 0 _ rfl;have z0:=j (k*7);have f1:=d 1 _ rfl;have z1:=j (k*7+1);have f2:=d 2 _ rfl;have z2:=j (k*7+2);have f3:=d 3 _ rfl;have z3:=j (k*7+3);have f4:=d 4 _ rfl;have z4:=j (k*7+4);have f5:=d 5 _ rfl;have z5:=j (k*7+5);have f6:=d 6 _ rfl;have z6:=j (k*7+6);simp only [BI] at f0;have hlt:(k:Int)<(s.chans.length:Int):=by omega
 have k5:=F3.r0.k10.2.2.2.2.2.1;obtain ⟨a0,a1,a2,a3,a4,a5,a6⟩:=F3.r1.k7
 have D:Jy 86 Qr 7 (w3.setCells g (k*7) (Qr o)) w0.heap.size (.slice (some ⟨g,0,none⟩) s.chans.length d3) (s.chans.set k o):=by
  have:=Qf.put z.chans (i:=k) (r:=Qr o) (by rw [Bp];omega) (Qd8 (l:=[o]) _ (by simp))
  rw [← De] at this;exact this
 have L:=z.putChans (Q3 w3 g (k*7) (Qr o)) D (fun b e=>.inl e)
 have F4:=F3.past (JN (Bj g) (Qr o) (k*7) w3 (Bi _ _)) (by omega) (fun q hq=>Br (F.lts q hq) aA)
 have G:=hid L;clear z L D d j;obtain ⟨w4,E⟩:∃ w4,w3.setCells g (k*7) (Qr o)=w4:=⟨_,rfl⟩;rw [E] at G F4;have S:=hid E;clear E O3
 go_upto_region 3 with fail
 refine Qab S.out ?_;clear k5 a0 a1 a2 a3 a4 a5 a6 f0 z0 f1 z1 f2 z2 f3 z3 f4 z4 f5 z5 f6 z6;obtain ⟨k0,k1,k2,k3,k4,k5,k6,k7,k8,k9⟩:=F4.r0.k10
 go_wp2_with (refine F4.store 2 rfl Qa (by simp) ?_;intro w7 F7 O7)
 refine Qfa results87 rfl F7.r2 Qa rfl ⟨F7.b,_,rfl,?_⟩;exact ((G.out.only O7 (by omega) Y).lower (base':=w.heap.size) (by omega)).holds
theorem Qpp (s:St) (v:Value) (N:Nat) (w:World) (i:Int) (od:Bool) (hv:StV w N v s) (hN:N≤w.heap.size) (d:s.fits) :
  Calls prog 54 #[v,Bb i,.bool od] w fun e w'=>Bd w w'∧∃ v',e=.returned (.tuple #[v',Bb (QcL s (Qap s i)),Bb (Qap s i)])∧Qp N w.heap.size w' v' (Qfv s i od):=by
 have L:=hid (fun wx (hx:Bd w wx)=>Qhd s v N wx i (hv.below (hx.mono hN)) (Bh hN hx.size) d)
 have D:=hid (fun (h0:Je s i=0) wx (hx:Bd w wx)=>Qg2 s v N wx ⟨1,od,i,-1,0,0,0⟩ (hv.below (hx.mono hN)) (Bh hN hx.size) d (QF (ZU h0).1))
 have HD:=hid (show Qap s i=if Je s i≠0 then Je s i else Y2 s from rfl)
 have m:=hid (show Qfv s i od=QgN s (Qap s i) ⟨1,od,i,-1,1,1,1⟩ from rfl);obtain ⟨o1,c1,o2,c2,o3,c3,o4,c4,o5,c5,o6,c6,o7,c7,rfl,hm⟩:=hv.open;clear hv hm d
 go_in
 go_upto_region 1 with fail
 refine QbK ?_;intro w0 F0 hs;clear hs;obtain ⟨k0,k1,k2,k3,k4,k5,k6,k7,k8,k9⟩:=F0.r0.k10
 go_wp2_with fail
 refine (L.out _ F0.b).mono ?_;rintro e w1 ⟨rfl,q⟩;have F:=F0.go q;clear q k0 k1 k2 k3 k4 k5 k6 k7 k8 k9 F0
 by_cases hz:Je s i=0
 ·have HI:=hid (show Qap s i=Y2 s from HD.out.trans (if_neg (by simp [hz])))
  have C:=hid (D.out hz);rw [hz];clear hz;obtain ⟨k0,k1,k2,k3,k4,k5,k6,k7,k8,k9⟩:=F.r0.k10
  go_wp2_with fail
  refine (C.out _ F.b).mono ?_;rintro e w2 ⟨z,v',rfl,j⟩;have F2:=F.go z;clear z k0 k1 k2 k3 k4 k5 k6 k7 k8 k9;obtain ⟨a0,a1,a2,a3,a4,a5,a6,a7,a8,a9,rfl,A⟩:=j.now.ten;have M:=hid j;have I:=hid A;clear j A
  go_wp2_with (refine F2.store 1 rfl Qa I.out ?_;intro w3 F3 O3)
  refine J9 results54 rfl F3.r1 Qa rfl ⟨F3.b,_,by rw [HI.out];rfl,?_⟩
  rw [m.out,HI.out];exact (M.out.only O3 (by omega) F.r1.lt).lower F.b.size
 ·have e0:(Je s i != 0)=true:=by simpa using hz
  have HI:=hid (show Qap s i=Je s i from HD.out.trans (if_pos hz));have G:=hid (show Qfv s i od=St.none from m.out.trans (by rw [HD.out,if_pos hz];exact if_neg hz))
  have E:=hid (show QcL s (Je s i)=0 from if_neg hz);clear hz;generalize Je s i=zz at *
  go_wp2_with (refine F.store 1 rfl Qa (by simp) ?_;intro wz FZ OZ)
  refine J9 results54 rfl FZ.r1 Qa rfl ⟨FZ.b,_,by rw [HI.out,E.out];rfl,?_⟩
  rw [G.out];exact Qg _ _ _
theorem Qrs (s:St) (v A:Value) (N:Nat) (w:World) (i q z:Int) (od:Bool) (h:Sh) (hv:StV w N v s) (hh:ShV w N A h) (hN:N≤w.heap.size) (d:s.fits) (L:h.fits) (m:Qi w) (j:QL w) (hz:QaT s ⟨2,od,i,q,0,0,0⟩ 1 (-1) h z) :
  Calls prog 55 #[v,Bb i,.bool od,Bb q,A] w fun e w'=>Bd w w'∧∃ v',e=.returned (.tuple #[v',Bb (QcL s (Qaf s i q z)),Bb (Qaf s i q z)])∧Qp N w.heap.size w' v' (Qlt s i od q z):=by
 have Y:=hid (fun wx (hx:Bd w wx)=>Qhd s v N wx i (hv.below (hx.mono hN)) (Bh hN hx.size) d)
 have O:=hid (fun (h0:Je s i=0) wx (hx:Bd w wx)=>Qg2 s v N wx ⟨2,od,i,q,0,0,0⟩ (hv.below (hx.mono hN)) (Bh hN hx.size) d (QF (ZU h0).1))
 have S:=hid (fun (h0:Je s i=0) (hq:Qs 0 q=true) wx (hx:Bd w wx)=>Qg8 s v A N wx 1 (-1) z ⟨2,od,i,q,0,0,0⟩ h (hv.below (hx.mono hN)) (hh.below (hx.mono hN)) (Bh hN hx.size) d L (m.past hx) (j.below hx) (ZU h0).1 (ZU h0).2 ((Q6 _ _).1 hq) (by omega) (by omega) hz)
 have HI:=hid (show Qaf s i q z=if (Je s i != 0)=true then Je s i else if (!Qs 0 q)=true then 3 else if (z != 0)=true then z else Y2 s by simp [Qaf])
 have HS:=hid (show Qlt s i od q z=QgN s (Qaf s i q z) ⟨2,od,i,q,1,1,1⟩ from rfl);obtain ⟨o1,c1,o2,c2,o3,c3,o4,c4,o5,c5,o6,c6,o7,c7,rfl,-⟩:=hv.open;obtain ⟨q1,e1,q2,e2,q3,e3,r1,s1,r2,s2,r3,s3,r4,s4,r5,s5,r6,s6,rfl,-⟩:=hh.open;clear hv d hh L m j hz
 go_in
 go_upto_region 1 with fail
 refine JP ?_;intro w0 F0 hs
 go_wp2_with (refine F0.load 0 rfl Qa ?_)
 refine (Y.out _ F0.b).mono ?_;rintro e w1 ⟨rfl,E⟩;have F:=F0.go E;clear E F0 hs
 cases e0:(Je s i != 0)
 cases e1:Qs 0 q
 rotate_left
 ·have h0:Je s i=0:=by simpa using e0
  have HA:=hid (O.out h0);have HM:=hid (S.out h0 e1);replace HI:=hid (HI.out.trans (by simp only [e0,e1];rfl))
  clear h0
  go_upto_region 7 with (go_at_call 14;refine (Jz _ _ _).mono ?_;rintro e w' ⟨rfl,D⟩;obtain rfl:=D.symm)
  refine F.box ?_;intro w2 F2 aC aB;clear aC aB F
  go_wp2_with (first | refine F2.load 0 rfl Qa ?_ | refine F2.load 1 rfl QN ?_ | refine F2.load 3 rfl Yi ?_)
  refine (HM.out _ F2.b).mono ?_;rintro e w3 ⟨rfl,G⟩;have F:=F2.go G;clear G F2
  cases e3:(z != 0)
  ·replace HI:=hid (show Qaf s i q z=Y2 s by rw [HI.out];simp [e3])
   go_wp2_with (first | refine F.load 0 rfl Qa ?_ | refine F.load 3 rfl Yi ?_)
   refine (HA.out _ F.b).mono ?_;rintro e w4 ⟨I,v',rfl,C⟩;have F4:=F.go I;have hg:=F.r2.lt;obtain ⟨a0,a1,a2,a3,a4,a5,a6,a7,a8,a9,rfl,M⟩:=C.now.ten;have aA:=hid C;have T:=hid M;have hz:=F.sz;clear I C M F
   go_wp2_with (refine F4.store 2 rfl Qa T.out ?_;intro w5 F5 O5)
   refine J9 results55 rfl F5.r2 Qa rfl ⟨F5.b,_,by rw [HI.out];rfl,?_⟩
   rw [HS.out,HI.out];exact (aA.out.only O5 (by omega) hg).lower hz
  ·have hn:Qaf s i q z≠0:=by rw [HI.out];grind
   have HN:=hid (show QcL s (Qaf s i q z)=0 from if_neg hn);replace HS:=hid (HS.out.trans (if_neg hn));replace HI:=hid (show Qaf s i q z=z by rw [HI.out];simp [e3])
   clear hn
   go_wp2_with (refine F.store 2 rfl Qa (by simp) ?_;intro wz FZ OZ)
   refine J9 results55 rfl FZ.r2 Qa rfl ⟨FZ.b,_,by rw [HN.out,HI.out];rfl,?_⟩
   rw [HS.out];exact Qg _ _ _
 all_goals
  have hn:Qaf s i q z≠0:=by rw [HI.out];grind
  have HN:=hid (show QcL s (Qaf s i q z)=0 from if_neg hn);replace HS:=hid (HS.out.trans (if_neg hn));replace HI:=hid (HI.out.trans (by simp only [*];rfl))
  clear hn
  go_wp2_with (first | (go_at_call 14;refine (Jz _ _ _).mono ?_;rintro e w' ⟨rfl,D⟩;obtain rfl:=D.symm) | refine F.store 2 rfl Qa (by simp) ?_;intro wz FZ OZ)
  refine J9 results55 rfl FZ.r2 Qa rfl ⟨FZ.b,_,by rw [HN.out,HI.out];rfl,?_⟩
  rw [HS.out];exact Qg _ _ _
theorem Qra (s:St) (v A:Value) (N:Nat) (w:World) (i q z:Int) (h:Sh) (hv:StV w N v s) (hh:ShV w N A h) (hN:N≤w.heap.size) (d:s.fits) (O:h.fits) (m:Qi w) (j:QL w) (hz:QaT s ⟨3,(Qx s i).ordered,(Qx s i).conn,q,0,0,0⟩ 2 i h z) :
  Calls prog 56 #[v,Bb i,Bb q,A] w fun e w'=>Bd w w'∧∃ v',e=.returned (.tuple #[v',Bb (QdI s i q z)])∧Qp N w.heap.size w' v' (Qlg s i q z):=by
 have aB:=hid (fun wx gl (hx:Bd w wx) hl=>QkI s v N wx i 1 gl (hv.below (hx.mono hN)) (Bh hN hx.size) d hl)
 have T:=hid (fun (h0:Jt s i 1=0) (o:Ch) wx (hx:Bd w wx)=>Qby s v N wx i o (hv.below (hx.mono hN)) (Bh hN hx.size) d (QF (Q2 h0).1) (Q2 h0).2.1)
 have Y:=hid (fun (h0:Jt s i 1=0) (hq:Qs 0 q=true) wx (hx:Bd w wx)=>Qg8 s v A N wx 2 i z ((Qx s i).turned (Qx s i).state q) h (hv.below (hx.mono hN)) (hh.below (hx.mono hN)) (Bh hN hx.size) d O (m.past hx) (j.below hx) (Q2 h0).1 (Q2 h0).2.2.2 ((Q6 _ _).1 hq) (by omega) (by have:=(Q2 h0).2.1;have:=(QF (Q2 h0).1).2.2.1;omega) hz)
 have HI:=hid (show QdI s i q z=if (Jt s i 1 != 0)=true then Jt s i 1 else if (!Qs 0 q)=true then 3 else z by simp [QdI])
 have HS:=hid (show Qlg s i q z=Qgd s (QdI s i q z) i ((Qx s i).turned 3 q) from rfl);obtain ⟨o1,c1,o2,c2,o3,c3,o4,c4,o5,c5,o6,c6,o7,c7,rfl,hm⟩:=hv.open;obtain ⟨q1,e1,q2,e2,q3,e3,r1,s1,r2,s2,r3,s3,r4,s4,r5,s5,r6,s6,rfl,-⟩:=hh.open;have HM:=hid hm;clear hv hm d hh O m j hz
 go_in
 go_upto_region 1 with fail
 refine JP ?_;intro w0 F0 hs
 go_wp2_with (refine F0.load 0 rfl Qa ?_)
 refine QbZ ?_;intro wl hl M;have F1:=F0.go M;refine (aB.out _ _ F1.b hl).mono ?_;rintro e w1 ⟨rfl,G⟩;have F:=F1.go G;clear G M hl F0 F1 hs
 cases e0:(Jt s i 1 != 0)
 cases e1:Qs 0 q
 rotate_left
 ·have e2:Jt s i 1=0:=by simpa using e0
  obtain ⟨k,rfl⟩:∃ k:Nat,i=(k:Int):=⟨i.toNat,by have:=Q2 e2;omega⟩
  have hlt:=(Q2 e2).2.1.2;obtain ⟨x,hx⟩:∃ x,s.chans[k]?=some x:=⟨_,Bk (by omega)⟩
  have HA:=hid (T.out e2);have E:=hid (Y.out e2 e1);rw [Yo hx] at HS E;replace HI:=hid (show QdI s (k:Int) q z=z by rw [HI.out];simp [e0,e1])
  obtain ⟨b,f,rfl,hb,x0,x1,x2,x3,x4,x5,x6⟩:=(HM.out.below (F.b.mono hN)).chans.chan rfl hx;have k5:=F.r0.k10.2.2.2.2.2.1;clear e2 hx
  go_upto_region 7 with (go_at_call 14;refine (Jz _ _ _).mono ?_;rintro e w' ⟨rfl,D⟩;obtain rfl:=D.symm)
  refine F.box ?_;intro w1 F1 aE aD;clear aE aD x0 x1 x2 x3 x4 x5 x6 k5 F;have a3:=F1.r3.k7.2.2.2.1;have z3:=F1.r3.frozen 3
  go_upto_region 8 with fail
  refine F1.cell 3 rfl ?_;intro w2 F2 O2;clear a3 z3 O2 F1
  go_wp2_with (first | refine F2.load 0 rfl Qa ?_ | refine F2.load 1 rfl QN ?_ | refine F2.load 3 rfl Yi ?_)
  refine (E.out _ F2.b).mono ?_;rintro e w4 ⟨rfl,I⟩;have F:=F2.go I;clear I F2
  cases e3:(z != 0)
  ·obtain rfl:z=0:=by simpa using e3
   have a0:=F.r3.k7.1;have z0:=F.r3.frozen 0
   go_upto_region 12 with fail
   refine F.cell 3 rfl ?_;intro w5 F5 O5;clear a0 z0 O5 F
   go_wp2_with (first | refine F5.load 0 rfl Qa ?_ | refine F5.load 3 rfl Yi ?_)
   refine (HA.out (x.turned 3 q) _ F5.b).mono ?_;rintro e w6 ⟨L,v',rfl,C⟩;have F6:=F5.go L;have hg:=F5.r2.lt;have hz:=F5.sz;obtain ⟨a0,a1,a2,a3,a4,a5,a6,a7,a8,a9,rfl,S⟩:=C.now.ten;have aC:=hid C;have aA:=hid S;clear L C S F5
   go_wp2_with (refine F6.store 2 rfl Qa aA.out ?_;intro w7 F7 O7)
   refine Ql results56 rfl F7.r2 Qa rfl ⟨F7.b,_,by rw [HI.out];rfl,?_⟩
   rw [HS.out,HI.out];exact (aC.out.only O7 (by omega) hg).lower hz
  ·replace HS:=hid (HS.out.trans (if_neg (by rw [HI.out];simpa using e3)))
   go_wp2_with (refine F.store 2 rfl Qa (by simp) ?_;intro wz FZ OZ)
   refine Ql results56 rfl FZ.r2 Qa rfl ⟨FZ.b,_,by rw [HI.out];rfl,?_⟩
   rw [HS.out];exact Qg _ _ _
 all_goals
  replace HS:=hid (HS.out.trans (if_neg (by rw [HI.out];grind)))
  replace HI:=hid (HI.out.trans (by simp only [*];rfl))
  go_wp2_with (first | (go_at_call 14;refine (Jz _ _ _).mono ?_;rintro e w' ⟨rfl,D⟩;obtain rfl:=D.symm) | refine F.store 2 rfl Qa (by simp) ?_;intro wz FZ OZ)
  refine Ql results56 rfl FZ.r2 Qa rfl ⟨FZ.b,_,by rw [HI.out];rfl,?_⟩
  rw [HS.out];exact Qg _ _ _
theorem Qpe (s:St) (v q:Value) (N:Nat) (w:World) (i st te z:Int) (aG:1≤te∧te≤4) (h:Sh) (hv:StV w N v s) (hh:ShV w N q h) (hN:N≤w.heap.size) (d:s.fits) (L:h.fits) (m:Qi w) (j:QL w) (hz:QaT s ⟨st,(Qx s i).ordered,(Qx s i).conn,(Qx s i).ochan,0,0,0⟩ te i h z) :
  Calls prog 88 #[v,Bb i,Bb st,Bb te,q] w fun e w'=>Bd w w'∧∃ v',e=.returned (.tuple #[v',Bb (Zk s i st z)])∧Qp N w.heap.size w' v' (QcM s i st z te):=by
 have aA:=hid (fun wx gl (hx:Bd w wx) hl=>QkI s v N wx i st gl (hv.below (hx.mono hN)) (Bh hN hx.size) d hl)
 have O:=hid (fun (h0:Jt s i st=0) (o:Ch) wx (hx:Bd w wx)=>Qby s v N wx i o (hv.below (hx.mono hN)) (Bh hN hx.size) d (QF (Q2 h0).1) (Q2 h0).2.1)
 have T:=hid (fun (h0:Jt s i st=0) (hq:decide ((Qx s i).ochan<0)=false) (aE:(Qx s i).ochan≤1000000000000) wx (hx:Bd w wx)=>Qg8 s v q N wx te i z (Qx s i) h (hv.below (hx.mono hN)) (hh.below (hx.mono hN)) (Bh hN hx.size) d L (m.past hx) (j.below hx) (Q2 h0).1 (Q2 h0).2.2.2 ⟨by simpa using hq,aE⟩ aG (by have:=(Q2 h0).2.1;have:=(QF (Q2 h0).1).2.2.1;omega) hz)
 have HI:=hid (show Zk s i st z=if (Jt s i st != 0)=true then Jt s i st else if decide ((Qx s i).ochan<0)=true then 8 else z by simp [Zk])
 have HS:=hid (show QcM s i st z te=Qgd s (Zk s i st z) i ((Qx s i).turned te (Qx s i).ochan) from rfl);obtain ⟨o1,c1,o2,c2,o3,c3,o4,c4,o5,c5,o6,c6,o7,c7,rfl,hm⟩:=hv.open;obtain ⟨q1,e1,q2,e2,q3,e3,r1,s1,r2,s2,r3,s3,r4,s4,r5,s5,r6,s6,rfl,-⟩:=hh.open;have HM:=hid hm;clear hv hm d hh L m j hz
 go_in
 go_upto_region 1 with fail
 refine JP ?_;intro w0 F0 hs
 go_wp2_with (refine F0.load 0 rfl Qa ?_)
 refine QbZ ?_;intro wl hl I;have F1:=F0.go I;refine (aA.out _ _ F1.b hl).mono ?_;rintro e w1 ⟨rfl,D⟩;have F:=F1.go D;clear D I hl F0 F1 hs
 cases e0:(Jt s i st != 0)
 ·have e2:Jt s i st=0:=by simpa using e0
  obtain ⟨k,rfl⟩:∃ k:Nat,i=(k:Int):=⟨i.toNat,by have:=Q2 e2;omega⟩
  have hlt:=(Q2 e2).2.1.2;obtain ⟨x,hx⟩:∃ x,s.chans[k]?=some x:=⟨_,Bk (by omega)⟩
  have HA:=hid (O.out e2);have C:=hid (T.out e2);have aC:=hid (Jw ((QD (Q2 e2).1).chans x (Bn hx))).2.2.1.2;rw [Yo hx] at HS C HI;obtain ⟨b,f,rfl,hb,x0,x1,x2,x3,x4,x5,x6⟩:=(HM.out.below (F.b.mono hN)).chans.chan rfl hx;have k5:=F.r0.k10.2.2.2.2.2.1;clear e2 hx
  go_upto_region 5 with fail
  refine F.box ?_;intro w2 F2 aF aD;clear aF aD x0 x1 x2 x3 x4 x5 x6 k5 F;have a3:=F2.r3.k7.2.2.2.1
  cases e1:decide (x.ochan<0)
  rotate_left
  ·replace HI:=hid (show Zk s (k:Int) st z=8 by rw [HI.out];simp [e0,e1])
   go_wp2_with (refine F2.store 2 rfl Qa (by simp) ?_;intro wz FZ OZ)
   refine Ql results88 rfl FZ.r2 Qa rfl ⟨FZ.b,_,by rw [HI.out];rfl,?_⟩
   rw [HS.out,HI.out];exact Qg _ _ _
  replace HI:=hid (show Zk s (k:Int) st z=z by rw [HI.out];simp [e0,e1])
  have S:=hid (C.out e1 aC.out)
  go_wp2_with (first | refine F2.load 0 rfl Qa ?_ | refine F2.load 1 rfl QN ?_ | refine F2.load 3 rfl Yi ?_)
  refine (S.out _ F2.b).mono ?_;rintro e w4 ⟨rfl,E⟩;have F:=F2.go E;clear E F2 a3
  cases e3:(z != 0)
  ·obtain rfl:z=0:=by simpa using e3
   have a0:=F.r3.k7.1;have z0:=F.r3.frozen 0
   go_upto_region 11 with fail
   refine F.cell 3 rfl ?_;intro w5 F5 O5;clear a0 z0 O5 F
   go_wp2_with (first | refine F5.load 0 rfl Qa ?_ | refine F5.load 3 rfl Yi ?_)
   refine (HA.out (x.turned te x.ochan) _ F5.b).mono ?_;rintro e w6 ⟨G,v',rfl,A⟩;have F6:=F5.go G;have hg:=F5.r2.lt;have hz:=F5.sz;obtain ⟨a0,a1,a2,a3,a4,a5,a6,a7,a8,a9,rfl,M⟩:=A.now.ten;have aB:=hid A;have Y:=hid M;clear G A M F5
   go_wp2_with (refine F6.store 2 rfl Qa Y.out ?_;intro w7 F7 O7)
   refine Ql results88 rfl F7.r2 Qa rfl ⟨F7.b,_,by rw [HI.out];rfl,?_⟩
   rw [HS.out,HI.out];exact (aB.out.only O7 (by omega) hg).lower hz
  ·replace HS:=hid (HS.out.trans (if_neg (by rw [HI.out];simpa using e3)))
   go_wp2_with (refine F.store 2 rfl Qa (by simp) ?_;intro wz FZ OZ)
   refine Ql results88 rfl FZ.r2 Qa rfl ⟨FZ.b,_,by rw [HI.out];rfl,?_⟩
   rw [HS.out];exact Qg _ _ _
 ·replace HI:=hid (HI.out.trans (if_pos e0))
  replace HS:=hid (HS.out.trans (if_neg (by rw [HI.out];simpa using e0)))
  go_wp2_with (refine F.store 2 rfl Qa (by simp) ?_;intro wz FZ OZ)
  refine Ql results88 rfl FZ.r2 Qa rfl ⟨FZ.b,_,by rw [HI.out];rfl,?_⟩
  rw [HS.out];exact Qg _ _ _
theorem Qjc (s:St) (v d:Value) (N:Nat) (w:World) (i z:Int) (h:Sh) (hv:StV w N v s) (hh:ShV w N d h) (hN:N≤w.heap.size) (j:s.fits) (D:h.fits) (q:Qi w) (m:QL w) :
  (QaT s ⟨2,(Qx s i).ordered,(Qx s i).conn,(Qx s i).ochan,0,0,0⟩ 3 i h z→Calls prog 57 #[v,Bb i,d] w fun e w'=>Bd w w'∧∃ v',e=.returned (.tuple #[v',Bb (Zk s i 2 z)])∧Qp N w.heap.size w' v' (QcM s i 2 z 3)) ∧
  (QaT s ⟨3,(Qx s i).ordered,(Qx s i).conn,(Qx s i).ochan,0,0,0⟩ 4 i h z→Calls prog 59 #[v,Bb i,d] w fun e w'=>Bd w w'∧∃ v',e=.returned (.tuple #[v',Bb (Zk s i 3 z)])∧Qp N w.heap.size w' v' (QcM s i 3 z 4)):=by
 have G:=hid (fun st te M wx (hx:Bd w wx)=>Qpe s v d N wx i st te z M h (hv.below (hx.mono hN)) (hh.below (hx.mono hN)) (Bh hN hx.size) j D (q.past hx) (m.below hx))
 obtain ⟨o1,c1,o2,c2,o3,c3,o4,c4,o5,c5,o6,c6,o7,c7,rfl,-⟩:=hv.open;obtain ⟨q1,e1,q2,e2,q3,e3,r1,s1,r2,s2,r3,s3,r4,s4,r5,s5,r6,s6,rfl,-⟩:=hh.open;clear hv j hh D q m
 constructor
 all_goals
  intro hz
  go_in
  go_upto_region 1 with fail
  refine JP ?_;intro w0 F0 hs
  go_wp2_with (first | refine F0.load 0 rfl Qa ?_ | refine F0.load 1 rfl QN ?_)
  refine (G.out _ _ (by omega) _ F0.b hz).mono ?_
  rintro e w1 ⟨C,v',rfl,A⟩;have F:=F0.go C;have hg:=F0.r2.lt;have hy:=F0.sz;obtain ⟨a0,a1,a2,a3,a4,a5,a6,a7,a8,a9,rfl,E⟩:=A.now.ten;have L:=hid A;have I:=hid E;clear hs C A E F0
  go_wp2_with (refine F.store 2 rfl Qa I.out ?_;intro w3 F3 O3)
  refine Ql (by first | exact results57 | exact results59) rfl F3.r2 Qa rfl ⟨F3.b,_,rfl,?_⟩
  exact (L.out.only O3 (by omega) hg).lower hy
theorem Qm1 (s:St) (v:Value) (N:Nat) (w:World) (i:Int) (hv:StV w N v s) (hN:N≤w.heap.size) (d:s.fits) :
  Calls prog 58 #[v,Bb i] w fun e w'=>Bd w w'∧∃ v',e=.returned (.tuple #[v',Bb (Jt s i 3)])∧Qp N w.heap.size w' v' (Qfx s i):=by
 have L:=hid (fun wx gl (hx:Bd w wx) hl=>QkI s v N wx i 3 gl (hv.below (hx.mono hN)) (Bh hN hx.size) d hl)
 have E:=hid (fun (h0:Jt s i 3=0) (o:Ch) wx (hx:Bd w wx)=>Qby s v N wx i o (hv.below (hx.mono hN)) (Bh hN hx.size) d (QF (Q2 h0).1) (Q2 h0).2.1)
 have j:=hid (show Qfx s i=Qgd s (Jt s i 3) i ((Qx s i).turned 4 (Qx s i).ochan) from rfl);obtain ⟨o1,c1,o2,c2,o3,c3,o4,c4,o5,c5,o6,c6,o7,c7,rfl,hm⟩:=hv.open;have HM:=hid hm;clear hv hm d
 go_in
 go_upto_region 1 with fail
 refine QbK ?_;intro w0 F0 hs;clear hs
 go_wp2_with (refine F0.load 0 rfl Qa ?_)
 refine QbZ ?_;intro wl hl A;have F1:=F0.go A;refine (L.out _ _ F1.b hl).mono ?_;rintro e w1 ⟨rfl,q⟩;have F:=F1.go q;clear q A hl F0 F1
 by_cases hz:Jt s i 3=0
 ·have D:=hid (E.out hz)
  have hr:=(Q2 hz).2.1;have HI:=hid hz;rw [hz];clear hz;obtain ⟨k,rfl⟩:∃ k:Nat,i=(k:Int):=⟨i.toNat,by omega⟩
  obtain ⟨x,hx⟩:∃ x,s.chans[k]?=some x:=⟨_,Bk (by omega)⟩
  have HX:=hid hx;rw [Yo hx] at j;clear hx;have hlt:(k:Int)<(s.chans.length:Int):=by omega
  obtain ⟨b,f,rfl,hb,x0,x1,x2,x3,x4,x5,x6⟩:=(HM.out.below (F.b.mono hN)).chans.chan rfl HX.out;have k5:=F.r0.k10.2.2.2.2.2.1
  go_upto_region 5 with fail
  refine F.box ?_;intro w2 F2 S O;clear S O x0 x1 x2 x3 x4 x5 x6 k5;have a0:=F2.r2.k7.1;have z0:=F2.r2.frozen 0
  go_upto_region 6 with fail
  refine F2.cell 2 rfl ?_;intro w5 F5 O5;clear a0 z0 O5 F2;obtain ⟨k0,k1,k2,k3,k4,k5,k6,k7,k8,k9⟩:=F5.r0.k10;obtain ⟨a0,a1,a2,a3,a4,a5,a6⟩:=F5.r2.k7
  go_wp2_with fail
  refine (D.out (x.turned 4 x.ochan) _ F5.b).mono ?_;rintro e w6 ⟨z,v',rfl,m⟩;have F6:=F5.go z;clear z k0 k1 k2 k3 k4 k5 k6 k7 k8 k9 a0 a1 a2 a3 a4 a5 a6;obtain ⟨a0,a1,a2,a3,a4,a5,a6,a7,a8,a9,rfl,C⟩:=m.now.ten;have M:=hid m;have I:=hid C;clear m C
  go_wp2_with (refine F6.store 1 rfl Qa I.out ?_;intro w7 F7 O7)
  refine Ql results58 rfl F7.r1 Qa rfl ⟨F7.b,_,by rw [HI.out];rfl,?_⟩
  rw [j.out,HI.out];exact (M.out.only O7 (by omega) F5.r1.lt).lower F5.b.size
 ·have e0:(Jt s i 3 != 0)=true:=by simpa using hz
  have G:=hid (show Qfx s i=St.none from j.out.trans (if_neg hz));clear hz;generalize hE:Jt s i 3=zz at *;have HI:=hid hE;clear hE
  go_wp2_with (refine F.store 1 rfl Qa (by simp) ?_;intro wz FZ OZ)
  refine Ql results58 rfl FZ.r1 Qa rfl ⟨FZ.b,_,by rw [HI.out];rfl,?_⟩
  rw [G.out];exact Qg _ _ _
theorem Qsk (s:St) (m:Ms) (o:Nat→Option Addr) (c:Nat→Nat) (v:Value) (N:Nat) (w:World) (z:Int) (hv:StV w N v s) (hm:MsM w N m o c) (hN:N≤w.heap.size) (b:s.fits) (d:m.fits) (hi:(-9223372036854775808≤m.pk.dst∧m.pk.dst≤9223372036854775807)∧-9223372036854775808≤m.pk.src∧m.pk.src≤9223372036854775807) (q:Qi w) (j:QL w) (hw:Qd s=0) (hz:Qpg s m z):QcJ N w v (.agg (msC m o c).toArray) (QI s m z):=by
 have go:∀ {O},QI s m z=O→QcJ N w v (.agg (msC m o c).toArray) O→QcJ N w v (.agg (msC m o c).toArray) (QI s m z):=fun e h=>e ▸ h
 have hV:=fun W (hb:Bd w W)=>hv.below (hb.mono hN)
 have hS:=fun W (hb:Bd w W)=>hm.below (hb.mono hN)
 have hZ:=fun W (hb:Bd w W)=>Bh hN hb.size
 have hT:=fun W (hb:Bd w W)=>q.past hb
 have hP:=fun W (hb:Bd w W)=>j.below hb
 have hF:=d.2.2.2.2.1;unfold Qpg at hz
 rcases (show m.kind=1∨m.kind=2∨m.kind=3∨m.kind=4∨m.kind=5∨m.kind=6∨m.kind=7∨m.kind=8∨m.kind=9∨m.kind=10∨m.kind=11∨m.kind=12∨m.kind=13∨m.kind=14∨m.kind=15∨m.kind=16∨m.kind=17∨m.kind=18∨m.kind<1∨18<m.kind by omega) with hk | hk | hk | hk | hk | hk | hk | hk | hk | hk | hk | hk | hk | hk | hk | hk | hk | hk | hk
 ·exact go (by simp [QI,hk];rfl) (Ql5 s m o c v N w _ _ _ hv hN (.inl ⟨hk,fun W hb=>QiJ s m o c v N W (hV W hb) (hS W hb) (hZ W hb) b d hw⟩))
 ·exact go (by simp [QI,YR,hk]) (Qcy s m o c v N w _ _ hv hN (.inl ⟨hk,fun W hb=>Qde s m o c v N W (hV W hb) (hS W hb) (hZ W hb) b d (hT W hb) hw⟩))
 ·exact go (by simp [QI,YR,hk]) (Qcy s m o c v N w _ _ hv hN (.inr (.inl ⟨hk,fun W hb=>Qde s m o c v N W (hV W hb) (hS W hb) (hZ W hb) b d (hT W hb) hw⟩)))
 ·exact go (by simp [QI,hk]) (Ql5 s m o c v N w _ _ _ hv hN (.inr (.inl ⟨hk,fun W hb=>QrO s v N W m.client m.other (hV W hb) (hZ W hb) b⟩)))
 ·simp [hk] at hz;exact go (by simp [QI,hk]) (Ql5 s m o c v N w _ _ _ hv hN (.inr (.inr (.inl ⟨hk,fun W hb=>Quv s v _ N W m.client m.other m.oend z m.sh (hV W hb) (hS W hb).sh (hZ W hb) b hF (hT W hb) (hP W hb) hz⟩))))
 ·simp [hk] at hz;exact go (by simp [QI,YR,hk]) (Qcy s m o c v N w _ _ hv hN (.inr (.inr (.inl ⟨hk,fun W hb=>Qtz s v _ N W m.fin m.oend z m.sh (hV W hb) (hS W hb).sh (hZ W hb) b hF (hT W hb) (hP W hb) hz⟩))))
 ·simp [hk] at hz;exact go (by simp [QI,YR,hk]) (Qcy s m o c v N w _ _ hv hN (.inr (.inr (.inr (.inl ⟨hk,fun W hb=>Qrn s v _ N W m.fin z m.sh (hV W hb) (hS W hb).sh (hZ W hb) b hF (hT W hb) (hP W hb) hz⟩)))))
 ·exact go (by simp [QI,hk]) (Ql5 s m o c v N w _ _ _ hv hN (.inr (.inr (.inr (.inl ⟨hk,fun W hb=>Qpp s v N W m.fin m.ordered (hV W hb) (hZ W hb) b⟩)))))
 ·simp [hk] at hz;exact go (by simp [QI,hk]) (Ql5 s m o c v N w _ _ _ hv hN (.inr (.inr (.inr (.inr ⟨hk,fun W hb=>Qrs s v _ N W m.fin m.oend z m.ordered m.sh (hV W hb) (hS W hb).sh (hZ W hb) b hF (hT W hb) (hP W hb) hz⟩)))))
 ·simp [hk] at hz;exact go (by simp [QI,YR,hk]) (Qcy s m o c v N w _ _ hv hN (.inr (.inr (.inr (.inr (.inl ⟨hk,fun W hb=>Qra s v _ N W m.fin m.oend z m.sh (hV W hb) (hS W hb).sh (hZ W hb) b hF (hT W hb) (hP W hb) hz⟩))))))
 ·simp [hk] at hz;exact go (by simp [QI,YR,hk]) (Qcy s m o c v N w _ _ hv hN (.inr (.inr (.inr (.inr (.inr (.inl ⟨hk,fun W hb=>(Qjc s v _ N W m.fin z m.sh (hV W hb) (hS W hb).sh (hZ W hb) b hF (hT W hb) (hP W hb)).1 hz⟩)))))))
 ·exact go (by simp [QI,YR,hk]) (Qcy s m o c v N w _ _ hv hN (.inr (.inr (.inr (.inr (.inr (.inr (.inl ⟨hk,fun W hb=>Qm1 s v N W m.fin (hV W hb) (hZ W hb) b⟩))))))))
 ·simp [hk] at hz;exact go (by simp [QI,YR,hk]) (Qcy s m o c v N w _ _ hv hN (.inr (.inr (.inr (.inr (.inr (.inr (.inr (.inl ⟨hk,fun W hb=>(Qjc s v _ N W m.fin z m.sh (hV W hb) (hS W hb).sh (hZ W hb) b hF (hT W hb) (hP W hb)).2 hz⟩)))))))))
 ·exact go (by simp [QI,hk]) (Qva s m o c v N w _ _ _ hk hv hN fun W hb=>QsT s m o c v N W (hV W hb) (hZ W hb) b d (hT W hb) (hP W hb) hw)
 ·simp [hk] at hz;exact go (by simp [QI,YR,hk]) (Qcy s m o c v N w _ _ hv hN (.inr (.inr (.inr (.inr (.inr (.inr (.inr (.inr (.inl ⟨hk,fun W hb=>Qqx s m o c v N W z (hV W hb) (hS W hb) (hZ W hb) b d hi (hT W hb) (hP W hb) hw hz⟩))))))))))
 ·simp [hk] at hz;exact go (by simp [QI,YR,hk]) (Qcy s m o c v N w _ _ hv hN (.inr (.inr (.inr (.inr (.inr (.inr (.inr (.inr (.inr (.inl ⟨hk,fun W hb=>Qpa s m o c v N W z (hV W hb) (hS W hb) (hZ W hb) b d (hT W hb) (hP W hb) hw hz⟩)))))))))))
 ·simp [hk] at hz;exact go (by simp [QI,YR,hk]) (Qcy s m o c v N w _ _ hv hN (.inr (.inr (.inr (.inr (.inr (.inr (.inr (.inr (.inr (.inr (.inl ⟨hk,fun W hb=>Qlz s m o c v N W z (hV W hb) (hS W hb) (hZ W hb) b d (hT W hb) (hP W hb) hw hz⟩))))))))))))
 ·exact go (by simp [QI,hk];rfl) (Qcy s m o c v N w _ _ hv hN (.inr (.inr (.inr (.inr (.inr (.inr (.inr (.inr (.inr (.inr (.inr ⟨hk,fun W hb=>QlE s m o c v N W (hV W hb) (hZ W hb) b d.2.2.2.2.2.1 hw⟩))))))))))))
 ·exact go (by unfold QI YR;simp [show m.kind≠1∧m.kind≠2∧m.kind≠3∧m.kind≠4∧m.kind≠5∧m.kind≠6∧m.kind≠7∧m.kind≠8∧m.kind≠9∧m.kind≠10∧m.kind≠11∧m.kind≠12∧m.kind≠13∧m.kind≠14∧m.kind≠15∧m.kind≠16∧m.kind≠17∧m.kind≠18 by omega]) (QvQ s m o c v N w hk hv hN)
theorem QvH (s:St) (m:Ms) (o:Nat→Option Addr) (c:Nat→Nat) (v:Value) (N:Nat) (w:World) (z:Int) (hv:StV w N v s) (hm:MsM w N m o c) (hN:N≤w.heap.size) (b:s.fits) (q:m.fits) (hi:(-9223372036854775808≤m.pk.dst∧m.pk.dst≤9223372036854775807)∧-9223372036854775808≤m.pk.src∧m.pk.src≤9223372036854775807) (j:Qi w) (d:QL w) (hz:Qpg s m z) :
  Calls prog 8 #[v,.agg (msC m o c).toArray] w fun e w'=>Bd w w'∧∃ x,e=.returned x∧QqZ N w.heap.size w' x (doO s m z) :=
 QrA s m o c v N w (QI s m z) hv hN b fun hw W hb=>Qsk s m o c v N W z (hv.below (hb.mono hN)) (hm.below (hb.mono hN)) (Bh hN hb.size) b q hi (j.past hb) (d.below hb) hw hz
end Go.Proofs.YtnedafiokmjkkaaGreatDoor
