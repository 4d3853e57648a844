/- app.obey and app.Do of any message. -/
import Derived.Test.YtnedafiokmjkkaaGreatDoorsaApSett
namespace Go.Proofs.YtnedafiokmjkkaaGreatDoor
open Tryz
set_option maxRecDepth 1000000
set_option maxHeartbeats 8000000
open Go.RowKit
theorem StV.ten {w:World} {N:Nat} {v:Value} {t:St} (h:StV w N v t):∃ a0 a1 a2 a3 a4 a5 a6 a7 a8 a9,v=.agg #[a0,a1,a2,a3,a4,a5,a6,a7,a8,a9]∧(#[a0,a1,a2,a3,a4,a5,a6,a7,a8,a9]:Array Value).all (·.oneCell')=true:=by
 obtain ⟨o1,c1,o2,c2,o3,c3,o4,c4,o5,c5,o6,c6,o7,c7,rfl,-⟩:=h.open;exact ⟨_,_,_,_,_,_,_,_,_,_,rfl,by simp⟩
theorem QbY {s:St} {c:Int} (h:J0 s c=0):Qd s=0:=by
 unfold J0 at h
 split at h
 ·rename_i h1;exact absurd h h1
 ·rename_i h1;simpa using h1
theorem Qbx {s:St} {c:Int} (h:J0 s c=0):ZS s c=0:=by
 unfold J0 at h
 split at h
 ·rename_i h1;exact absurd h h1
 ·exact h
theorem Qau {a b c d:Int} (h1:1≤a∧a≤3) (h2:0≤b∧b≤1000000000000) (h3:0≤c∧c≤1000000000000) (h4 : -1≤d∧d≤1000000000000):Ji ⟨a,b,c,d⟩=0:=by
 unfold Ji;rw [if_neg (by simp;omega),if_neg]
 simp [Qs];omega
theorem Qr1 (s:St) (v:Value) (N:Nat) (w:World) (c o:Int) (hv:StV w N v s) (hN:N≤w.heap.size) (j:s.fits) :
  Calls prog 50 #[v,Bb c,Bb o] w fun e w'=>Bd w w'∧∃ v',e=.returned (.tuple #[v',Bb (Qlp s (QaA s c o)),Bb (QaA s c o)])∧Qp N w.heap.size w' v' (Ql2 s c o):=by
 have G:=hid (fun wx (hx:Bd w wx)=>Qj2 s v N wx c (hv.below (hx.mono hN)) (Bh hN hx.size) j)
 have D:=hid (fun (h:J0 s c=0) wx (hx:Bd w wx)=>Qi7 s v N wx ⟨1,c,o,-1⟩ (hv.below (hx.mono hN)) (Bh hN hx.size) j (QE (QbY h)))
 have HI:=hid (show QaA s c o=if (J0 s c != 0)=true then J0 s c else if (!Qs 0 o)=true then 3 else QbS s by simp [QaA])
 have HS:=hid (show Ql2 s c o=Qna s (QaA s c o) ⟨1,c,o,-1⟩ from rfl);obtain ⟨o1,c1,o2,c2,o3,c3,o4,c4,o5,c5,o6,c6,o7,c7,rfl,hm⟩:=hv.open;clear hv hm j
 go_in
 go_upto_region 1 with fail
 refine QdQ ?_;intro w0 F0 hs
 go_wp2_with (refine F0.load 0 rfl Qa ?_)
 refine (G.out _ F0.b).mono ?_;rintro e w1 ⟨rfl,z⟩;have F:=F0.go z;clear z F0 hs
 cases e0:(J0 s c != 0)
 cases e1:Qs 0 o
 rotate_left
 ·replace HI:=hid (show QaA s c o=QbS s by rw [HI.out];simp [e0,e1])
  have HA:=hid (D.out (by simpa using e0))
  go_wp2_with (first | (go_at_call 14;refine (JC _ _ _).mono ?_;rintro e w' ⟨rfl,q⟩;obtain rfl:=q.symm) | refine F.load 0 rfl Qa ?_)
  refine (HA.out _ F.b).mono ?_;rintro e w4 ⟨A,v',rfl,m⟩;have F4:=F.go A;have hg:=F.r1.lt;obtain ⟨a0,a1,a2,a3,a4,a5,a6,a7,a8,a9,rfl,C⟩:=m.now.ten;have I:=hid m;have E:=hid C;have hz:=F.sz;clear A m C F
  go_wp2_with (refine F4.store 1 rfl Qa E.out ?_;intro w5 F5 O5)
  refine Ya results50 rfl F5.r1 Qa rfl ⟨F5.b,_,by rw [HI.out];rfl,?_⟩
  rw [HS.out,HI.out];exact (I.out.only O5 (by omega) hg).lower hz
 all_goals
  have hn:QaA s c o≠0:=by rw [HI.out];grind
  have HN:=hid (show Qlp s (QaA s c o)=0 from if_neg hn);replace HS:=hid (HS.out.trans (if_neg hn));replace HI:=hid (HI.out.trans (by simp only [*];rfl))
  clear hn
  go_wp2_with (first | (go_at_call 14;refine (JC _ _ _).mono ?_;rintro e w' ⟨rfl,q⟩;obtain rfl:=q.symm) | refine F.store 1 rfl Qa (by simp) ?_;intro wz FZ OZ)
  refine Ya results50 rfl FZ.r1 Qa rfl ⟨FZ.b,_,by rw [HN.out,HI.out];rfl,?_⟩
  rw [HS.out];exact Qg _ _ _
def QcA (N:Nat) (w:World) (f:FuncId) (args:Array Value) (E:Int) (S:St):Prop:=∀ W,Bd w W→Calls prog f args W fun e w'=>Bd W w'∧∃ v',e=.returned (.tuple #[v',Bb E])∧Qp N W.heap.size w' v' S
def Qln (N:Nat) (w:World) (f:FuncId) (args:Array Value) (I E:Int) (S:St):Prop:=∀ W,Bd w W→Calls prog f args W fun e w'=>Bd W w'∧∃ v',e=.returned (.tuple #[v',Bb I,Bb E])∧Qp N W.heap.size w' v' S
def QvN (N:Nat) (w:World) (f:FuncId) (args:Array Value) (E:Int) (S:St) (P:Pk):Prop:=∀ W,Bd w W→Calls prog f args W fun e w'=>Bd W w'∧∃ v' pv,e=.returned (.tuple #[v',pv,Bb E])∧Qp N W.heap.size w' v' S∧JY N W.heap.size w' pv P
def QcO (N:Nat) (w:World) (v mv:Value) (O:Out):Prop:=Calls prog 31 #[v,mv] w fun e w'=>Bd w w'∧∃ x,e=.returned x∧Qrc N w.heap.size w' x O
theorem JY.open {N base:Nat} {w:World} {v:Value} {p:Pk} (h:JY N base w v p):∃ od nd cd,v=.agg #[Bb p.src,Bb p.dst,Bb p.seq,.slice od nd cd,Bb p.tmo]:=by
 obtain ⟨od,cd,e,-⟩:=(QM.now h).open;exact ⟨od,_,cd,e⟩
structure J2 (w:World) (a b i j:Nat) (ta tb:TypeId) (ca cb:List Value) (τ:Nat→Option Value) (W:World):Prop where
 low:Below 0 w W
 same:∀ k,k<w.heap.size→k≠a→k≠b→W.heap[k]?=w.heap[k]?
 sa:Sp a ta ca.length W
 sb:Sp b tb cb.length W
 pa:∀ X,τ i=some X→Row W a ta ca
 pb:∀ X,τ j=some X→Row W b tb cb
section
variable {w:World} {a b i j:Nat} {ta tb:TypeId} {ca cb:List Value} {τ:Nat→Option Value} {W W':World}
theorem J2.skip (h:J2 w a b i j ta tb ca cb τ W) {k:Nat} (hi:i≠k) (hj:j≠k) (v:Value):J2 w a b i j ta tb ca cb (QD τ k v) W:=⟨h.low,h.same,h.sa,h.sb,by rw [show QD τ k v i=τ i from if_neg hi];exact h.pa,by rw [show QD τ k v j=τ j from if_neg hj];exact h.pb⟩
theorem J2.start (ha:Sp a ta ca.length w) (hb:Sp b tb cb.length w):J2 w a b i j ta tb ca cb (fun _=>none) w.drew:=⟨(Bi _ _).drew,fun _ _ _ _=>rfl,ha.low (Bi _ _).drew,hb.low (Bi _ _).drew,fun _ h=>(by cases h),fun _ h=>(by cases h)⟩
theorem J2.puta (h:J2 w a b i j ta tb ca cb τ W) (e:j≠i) (hab:a≠b) (O:JJ a W W') (hr:Row W' a ta ca) (v:Value):J2 w a b i j ta tb ca cb (QD τ i v) W':=⟨h.low.trans O.below,fun k hk h1 h2=>(O.same k h1).trans (h.same k hk h1 h2),⟨_,hr,rfl⟩,h.sb.only O (by omega),fun _ _=>hr,by
 rw [show QD τ i v j=τ j from if_neg e]
 exact fun X hX=>(O.same b (by omega)).trans (h.pb X hX)⟩
theorem J2.putb (h:J2 w a b i j ta tb ca cb τ W) (m:i≠j) (e:a≠b) (O:JJ b W W') (hr:Row W' b tb cb) (v:Value):J2 w a b i j ta tb ca cb (QD τ j v) W':=⟨h.low.trans O.below,fun k hk h1 h2=>(O.same k h2).trans (h.same k hk h1 h2),h.sa.only O e,⟨_,hr,rfl⟩,by
 rw [show QD τ j v i=τ i from if_neg m]
 exact fun X hX=>(O.same a e).trans (h.pa X hX),fun _ _=>hr⟩
theorem J2.row (h:J2 w a b i j ta tb ca cb τ W) {g:Nat} {ty:TypeId} {cs:List Value} (hr:Row w g ty cs) (h1:g≠a) (h2:g≠b):Row W g ty cs:=(h.same g hr.lt h1 h2).trans hr
theorem J2.below (h:J2 w a b i j ta tb ca cb τ W) {B:Nat} (h1:B≤a) (h2:B≤b) (hB:B≤w.heap.size):Below B w W:=⟨h.low.os,h.low.tape,h.low.output,h.low.size,fun k hk=>h.same k (by omega) (by omega) (by omega)⟩
end
theorem Qs8 (nm:ByteArray) (hh tt:Int) (o0 o1 o2 o3 o4 o5 o6:Option Addr) (n0 n1 n2 n3 n4 n5 n6 c0 c1 c2 c3 c4 c5 c6:Nat) (p0 p1 p2 p4:Int) (od:Option Addr) (nd cd:Nat) (e:Int) (w:World) :
  Calls prog 60 #[.agg #[.string nm,Bb hh,Bb tt,.slice o0 n0 c0,.slice o1 n1 c1,.slice o2 n2 c2,.slice o3 n3 c3,.slice o4 n4 c4,.slice o5 n5 c5,.slice o6 n6 c6],.agg #[Bb p0,Bb p1,Bb p2,.slice od nd cd,Bb p4],Bb e] w fun x w'=>x=.returned (.tuple #[.agg #[.string nm,Bb hh,Bb tt,.slice o0 n0 c0,.slice o1 n1 c1,.slice o2 n2 c2,.slice o3 n3 c3,.slice o4 n4 c4,.slice o5 n5 c5,.slice o6 n6 c6],.agg #[Bb e,Bb 0,Bb p0,Bb p1,Bb p2,.slice od nd cd,Bb p4]])∧Bd w w':=by
 go_in
 go_upto_region 1 with fail
 refine Qan ?_;intro w0 F0 hs;have HF:=hid F0;have HS:=hid hs;clear hs F0;apply Qba (J:=J2 w0 (w.heap.size+1+1) (w.heap.size+1+1+1) 4 5 28 58 [.string nm,Bb hh,Bb tt,.slice o0 n0 c0,.slice o1 n1 c1,.slice o2 n2 c2,.slice o3 n3 c3,.slice o4 n4 c4,.slice o5 n5 c5,.slice o6 n6 c6] [Bb e,Bb 0,Bb p0,Bb p1,Bb p2,.slice od nd cd,Bb p4]) (by kernel_rfl) (fun τ W hj=>And.intro (hj.row HF.out.r0 (by omega) (by omega)).k10 (hj.row HF.out.r1 (by omega) (by omega)).k5) (J2.start ⟨_,HF.out.r2,rfl⟩ ⟨_,HF.out.r3,rfl⟩) (by kernel_rfl)
 ·intro σ;simp [Ql];exact rfl
 iterate 4 (apply RJ.val (fun τ W h=>h.skip (by decide) (by decide) _) rfl;· intro σ W hc ⟨hd,hu⟩;simp at hd;go_simp;exact rfl)
 apply RJ.store rfl rfl Qa
 ·intro σ W τ hj hc ha hn ⟨hd,hu⟩
  have e0:σ 0=.agg #[.string nm,Bb hh,Bb tt,.slice o0 n0 c0,.slice o1 n1 c1,.slice o2 n2 c2,.slice o3 n3 c3,.slice o4 n4 c4,.slice o5 n5 c5,.slice o6 n6 c6]:=hd ⟨0,.data⟩ (by simp) (by decide)
  exact ⟨_,_,hj.sa,rfl,e0,rfl,by simp,fun W' g2 g3=>hj.puta (by decide) (by omega) g2 g3 _⟩
 apply RJ.store rfl rfl QC
 ·intro σ W τ hj hc ha hn ⟨hd,hu⟩
  have e3:σ 3=.agg #[Bb e,Bb 0,Bb p0,Bb p1,Bb p2,.slice od nd cd,Bb p4]:=hd ⟨3,.data⟩ (by simp) (by decide)
  exact ⟨_,_,hj.sb,rfl,e3,rfl,by simp,fun W' g2 g3=>hj.putb (by decide) (by omega) g2 g3 _⟩
 intro σ W τ hτ hj _ _;have H2:=hid (hj.pa _ (hτ 4 (by simp)))
 have H3:=hid (hj.pb _ (hτ 5 (by simp)))
 have HB:=hid (HF.out.b.trans (hj.below (by omega) (by omega) HF.out.b.size))
 go_wp2;exact Qbc results60 rfl H2.out Qa rfl H3.out QC rfl ⟨rfl,HB.out⟩
def shC (m:Ms) (o:Nat→Option Addr) (c:Nat→Nat):List Value:=[Bb m.sh.height,Bb m.sh.prf.index,Bb m.sh.prf.size,.slice (o 14) m.sh.prf.key.length (c 14),.slice (o 15) m.sh.prf.val.length (c 15),.slice (o 16) m.sh.prf.path.length (c 16),.bool m.sh.gap.hasL,.bool m.sh.gap.hasR,Bb m.sh.gap.left.index,Bb m.sh.gap.left.size,.slice (o 17) m.sh.gap.left.key.length (c 17),.slice (o 18) m.sh.gap.left.val.length (c 18),.slice (o 19) m.sh.gap.left.path.length (c 19),Bb m.sh.gap.right.index,Bb m.sh.gap.right.size,.slice (o 20) m.sh.gap.right.key.length (c 20),.slice (o 21) m.sh.gap.right.val.length (c 21),.slice (o 22) m.sh.gap.right.path.length (c 22)]
theorem Qmo (s:St) (m:Ms) (o:Nat→Option Addr) (c:Nat→Nat) (v:Value) (N:Nat) (w:World) (I E:Int) (S:St) (hv:StV w N v s) (hN:N≤w.heap.size) (hc:(m.kind=1∧Qln N w 47 #[v,.agg (msC m o c).toArray] I E S)∨(m.kind=4∧Qln N w 50 #[v,Bb m.client,Bb m.other] I E S)∨(m.kind=5∧Qln N w 51 #[v,Bb m.client,Bb m.other,Bb m.oend,.agg (shC m o c).toArray] I E S)∨(m.kind=8∧Qln N w 54 #[v,Bb m.fin,.bool m.ordered] I E S)∨(m.kind=9∧Qln N w 55 #[v,Bb m.fin,.bool m.ordered,Bb m.oend,.agg (shC m o c).toArray] I E S)):QcO N w v (.agg (msC m o c).toArray) ⟨S,E,I,Pk.none⟩:=by
 obtain ⟨o1,c1,o2,c2,o3,c3,o4,c4,o5,c5,o6,c6,o7,c7,rfl,-⟩:=hv.open;clear hv;generalize s.clients.length=n1,s.conns.length=n2,s.chans.length=n3,s.sent.length=n4,s.got.length=n5,s.acks.length=n6,s.purses.length=n7 at *;unfold QcO
 go_in
 go_upto_region 1 with fail
 refine Qan ?_;intro w0 F0 hs;have q0:w0.cell? ⟨w.heap.size+1,0,none⟩=some (Bb m.kind):=F0.r1.cell 0;have q7:w0.cell? ⟨w.heap.size+1,7,none⟩=some (Bb m.client):=F0.r1.cell 7;have C:w0.cell? ⟨w.heap.size+1,28,none⟩=some (Bb m.other):=F0.r1.cell 28;have D:w0.cell? ⟨w.heap.size+1,29,none⟩=some (Bb m.oend):=F0.r1.cell 29;have G:w0.cell? ⟨w.heap.size+1,30,none⟩=some (Bb m.fin):=F0.r1.cell 30;have L:w0.cell? ⟨w.heap.size+1,31,none⟩=some (.bool m.ordered):=F0.r1.cell 31;clear hs
 rcases hc with ⟨hk,hc⟩ | ⟨hk,hc⟩ | ⟨hk,hc⟩ | ⟨hk,hc⟩ | ⟨hk,hc⟩
 all_goals
  rw [hk] at q0;have HC:=hid hc;clear hc hk
  go_wp2_with (first | refine F0.load 0 rfl Qa ?_ | refine F0.load 1 rfl Z7 ?_ | refine F0.loadMid 1 32 (shC m o c) rfl rfl rfl rfl rfl QN ?_)
  refine (HC.out _ F0.b).mono ?_;rintro e w1 ⟨q,v',rfl,hh⟩;have F1:=F0.go q;have HH:=hid hh;have l2:=F0.r2.lt;have l3:=F0.r3.lt;have z:=hid F0.b.size;obtain ⟨a1,b1,d1,a2,b2,d2,a3,b3,d3,a4,b4,d4,a5,b5,d5,a6,b6,d6,a7,b7,d7,rfl⟩:=hh.open;clear q hh HC F0 q0 q7 C D G L
  go_wp2_with fail
  refine (Qsk _ _ _ _ _ _ _ _ _ _ _ _ _ _ _ _ _ _ _ _ _ _ _ _ _ _ _).mono ?_;rintro e w2 ⟨rfl,j⟩;have F2:=F1.go j;have A:=hid (HH.out.below j);clear j F1 HH
  go_wp2_with (first | (refine F2.store 2 rfl Qa (by simp) ?_;intro w3 F3 O3) | (refine F3.store 3 rfl QC (by simp) ?_;intro w4 F4 O4))
  refine Qbc results31 rfl F4.r2 Qa rfl F4.r3 QC rfl ⟨F4.b,_,rfl,_,none,0,0,rfl,?_,Jr _ _ _⟩;exact (((A.out.only O3 (by omega) l2).only O4 (by omega) l3)).lower z.out
theorem Qvm (s:St) (m:Ms) (o:Nat→Option Addr) (c:Nat→Nat) (v:Value) (N:Nat) (w:World) (E:Int) (S:St) (P:Pk) (hk:m.kind=14) (hv:StV w N v s) (hN:N≤w.heap.size) (hc:QvN N w 61 #[v,.agg (msC m o c).toArray] E S P):QcO N w v (.agg (msC m o c).toArray) ⟨S,E,0,P⟩:=by
 obtain ⟨o1,c1,o2,c2,o3,c3,o4,c4,o5,c5,o6,c6,o7,c7,rfl,-⟩:=hv.open;have HC:=hid hc;clear hc hv;generalize s.clients.length=n1,s.conns.length=n2,s.chans.length=n3,s.sent.length=n4,s.got.length=n5,s.acks.length=n6,s.purses.length=n7 at *;unfold QcO
 go_in
 go_upto_region 1 with fail
 refine Qan ?_;intro w0 F0 hs;have q0:w0.cell? ⟨w.heap.size+1,0,none⟩=some (Bb 14):=hk ▸ F0.r1.cell 0;clear hs hk
 go_wp2_with (first | refine F0.load 0 rfl Qa ?_ | refine F0.load 1 rfl Z7 ?_)
 refine (HC.out _ F0.b).mono ?_;rintro e w1 ⟨z,v',pv,rfl,hh,hp⟩;have F1:=F0.go z;have HH:=hid hh;have l2:=F0.r2.lt;have l3:=F0.r3.lt;have q:=hid F0.b.size;obtain ⟨a1,b1,d1,a2,b2,d2,a3,b3,d3,a4,b4,d4,a5,b5,d5,a6,b6,d6,a7,b7,d7,rfl⟩:=hh.open;have HP:=hid hp;obtain ⟨od,nd,cd,rfl⟩:=hp.open;clear z hh HC F0 q0 hp
 go_wp2_with fail
 refine (Qs8 _ _ _ _ _ _ _ _ _ _ _ _ _ _ _ _ _ _ _ _ _ _ _ _ _ _ _ _ _ _ _ _ _).mono ?_;rintro e w2 ⟨rfl,j⟩;have F2:=F1.go j;have A:=hid (HH.out.below j);have C:=hid (HP.out.below j);clear j F1 HH HP
 go_wp2_with (first | (refine F2.store 2 rfl Qa (by simp) ?_;intro w3 F3 O3) | (refine F3.store 3 rfl QC (by simp) ?_;intro w4 F4 O4))
 refine Qbc results31 rfl F4.r2 Qa rfl F4.r3 QC rfl ⟨F4.b,_,rfl,_,od,nd,cd,rfl,?_,?_⟩
 ·exact (((A.out.only O3 (by omega) l2).only O4 (by omega) l3)).lower q.out
 ·exact (((C.out.only O3 (by omega) l2).only O4 (by omega) l3)).lower q.out
theorem QvZ (s:St) (m:Ms) (o:Nat→Option Addr) (c:Nat→Nat) (v:Value) (N:Nat) (w:World) (hk:m.kind<1∨18<m.kind) (hv:StV w N v s) (hN:N≤w.heap.size):QcO N w v (.agg (msC m o c).toArray) (Y7 s 1):=by
 have HV:=hid (fun W (hb:Bd w W)=>show Qp N W.heap.size W v s from ⟨fun b hF=>hF.2,fun w2 j T=>(((hv.below (hb.mono hN)).below (show Below N W w2 from ⟨j.os,j.tape,j.output,j.size,fun b q=>T b ⟨.inl q,Bt q (Bh hN hb.size)⟩⟩)).mono (Bh (Bh hN hb.size) j.size))⟩)
 obtain ⟨o1,c1,o2,c2,o3,c3,o4,c4,o5,c5,o6,c6,o7,c7,rfl,-⟩:=hv.open;clear hv;generalize s.clients.length=n1,s.conns.length=n2,s.chans.length=n3,s.sent.length=n4,s.got.length=n5,s.acks.length=n6,s.purses.length=n7 at *;unfold QcO
 go_in
 go_upto_region 1 with fail
 refine Qan ?_;intro w0 F0 hs;have q0:w0.cell? ⟨w.heap.size+1,0,none⟩=some (Bb m.kind):=F0.r1.cell 0;have e1:(m.kind == 1)=false:=by simp;omega
 have e2:(m.kind == 2)=false:=by simp;omega
 have e3:(m.kind == 3)=false:=by simp;omega
 have e4:(m.kind == 4)=false:=by simp;omega
 have e5:(m.kind == 5)=false:=by simp;omega
 have e6:(m.kind == 6)=false:=by simp;omega
 have e7:(m.kind == 7)=false:=by simp;omega
 have e8:(m.kind == 8)=false:=by simp;omega
 have e9:(m.kind == 9)=false:=by simp;omega
 have C:(m.kind == 10)=false:=by simp;omega
 have D:(m.kind == 11)=false:=by simp;omega
 have E:(m.kind == 12)=false:=by simp;omega
 have G:(m.kind == 13)=false:=by simp;omega
 have I:(m.kind == 14)=false:=by simp;omega
 have L:(m.kind == 15)=false:=by simp;omega
 have M:(m.kind == 16)=false:=by simp;omega
 have O:(m.kind == 17)=false:=by simp;omega
 have S:(m.kind == 18)=false:=by simp;omega
 clear hs hk
 go_wp2_with (refine F0.load 0 rfl Qa ?_)
 refine (QcW _ _ _ _ _ _ _ _ _ _ _ _ _ _ _ _ _ _ _ _ _ _ _ _ _ _).mono ?_;rintro e w2 ⟨rfl,j⟩;have F2:=F0.go j;have l2:=F0.r2.lt;have l3:=F0.r3.lt;have z:=hid F0.b.size;have A:=hid ((HV.out _ F0.b).below j);clear j F0 q0 e1 e2 e3 e4 e5 e6 e7 e8 e9 C D E G I L M O S
 go_wp2_with (first | (refine F2.store 2 rfl Qa (by simp) ?_;intro w3 F3 O3) | (refine F3.store 3 rfl QC (by simp) ?_;intro w4 F4 O4))
 refine Qbc results31 rfl F4.r2 Qa rfl F4.r3 QC rfl ⟨F4.b,_,rfl,_,none,0,0,rfl,?_,Jr _ _ _⟩;exact (((A.out.only O3 (by omega) l2).only O4 (by omega) l3)).lower z.out
theorem QcE (s:St) (m:Ms) (o:Nat→Option Addr) (c:Nat→Nat) (v:Value) (N:Nat) (w:World) (E:Int) (S:St) (hv:StV w N v s) (hN:N≤w.heap.size) (hc:(m.kind=2∧QcA N w 49 #[v,.agg (msC m o c).toArray] E S)∨(m.kind=3∧QcA N w 49 #[v,.agg (msC m o c).toArray] E S)∨(m.kind=6∧QcA N w 52 #[v,Bb m.fin,Bb m.oend,.agg (shC m o c).toArray] E S)∨(m.kind=7∧QcA N w 53 #[v,Bb m.fin,.agg (shC m o c).toArray] E S)∨(m.kind=10∧QcA N w 56 #[v,Bb m.fin,Bb m.oend,.agg (shC m o c).toArray] E S)∨(m.kind=11∧QcA N w 57 #[v,Bb m.fin,.agg (shC m o c).toArray] E S)∨(m.kind=12∧QcA N w 58 #[v,Bb m.fin] E S)∨(m.kind=13∧QcA N w 59 #[v,Bb m.fin,.agg (shC m o c).toArray] E S)∨(m.kind=15∧QcA N w 62 #[v,.agg (msC m o c).toArray] E S)∨(m.kind=16∧QcA N w 63 #[v,.agg (msC m o c).toArray] E S)∨(m.kind=17∧QcA N w 64 #[v,.agg (msC m o c).toArray] E S)∨(m.kind=18∧QcA N w 65 #[v,.agg (msC m o c).toArray] E S)):QcO N w v (.agg (msC m o c).toArray) ⟨S,E,0,Pk.none⟩:=by
 obtain ⟨o1,c1,o2,c2,o3,c3,o4,c4,o5,c5,o6,c6,o7,c7,rfl,-⟩:=hv.open;clear hv;generalize s.clients.length=n1,s.conns.length=n2,s.chans.length=n3,s.sent.length=n4,s.got.length=n5,s.acks.length=n6,s.purses.length=n7 at *;unfold QcO
 go_in
 go_upto_region 1 with fail
 refine Qan ?_;intro w0 F0 hs;have q0:w0.cell? ⟨w.heap.size+1,0,none⟩=some (Bb m.kind):=F0.r1.cell 0;have q7:w0.cell? ⟨w.heap.size+1,7,none⟩=some (Bb m.client):=F0.r1.cell 7;have C:w0.cell? ⟨w.heap.size+1,28,none⟩=some (Bb m.other):=F0.r1.cell 28;have D:w0.cell? ⟨w.heap.size+1,29,none⟩=some (Bb m.oend):=F0.r1.cell 29;have G:w0.cell? ⟨w.heap.size+1,30,none⟩=some (Bb m.fin):=F0.r1.cell 30;have I:w0.cell? ⟨w.heap.size+1,31,none⟩=some (.bool m.ordered):=F0.r1.cell 31;clear hs
 rcases hc with ⟨hk,hc⟩ | ⟨hk,hc⟩ | ⟨hk,hc⟩ | ⟨hk,hc⟩ | ⟨hk,hc⟩ | ⟨hk,hc⟩ | ⟨hk,hc⟩ | ⟨hk,hc⟩ | ⟨hk,hc⟩ | ⟨hk,hc⟩ | ⟨hk,hc⟩ | ⟨hk,hc⟩
 all_goals
  rw [hk] at q0;have HC:=hid hc;clear hc hk
  go_wp2_with (first | refine F0.load 0 rfl Qa ?_ | refine F0.load 1 rfl Z7 ?_ | refine F0.loadMid 1 32 (shC m o c) rfl rfl rfl rfl rfl QN ?_)
  refine (HC.out _ F0.b).mono ?_;rintro e w1 ⟨q,v',rfl,hh⟩;have F1:=F0.go q;have HH:=hid hh;have l2:=F0.r2.lt;have l3:=F0.r3.lt;have z:=hid F0.b.size;obtain ⟨a1,b1,d1,a2,b2,d2,a3,b3,d3,a4,b4,d4,a5,b5,d5,a6,b6,d6,a7,b7,d7,rfl⟩:=hh.open;clear q hh HC F0 q0 q7 C D G I
  go_wp2_with fail
  refine (QcW _ _ _ _ _ _ _ _ _ _ _ _ _ _ _ _ _ _ _ _ _ _ _ _ _ _).mono ?_;rintro e w2 ⟨rfl,j⟩;have F2:=F1.go j;have A:=hid (HH.out.below j);clear j F1 HH
  go_wp2_with (first | (refine F2.store 2 rfl Qa (by simp) ?_;intro w3 F3 O3) | (refine F3.store 3 rfl QC (by simp) ?_;intro w4 F4 O4))
  refine Qbc results31 rfl F4.r2 Qa rfl F4.r3 QC rfl ⟨F4.b,_,rfl,_,none,0,0,rfl,?_,Jr _ _ _⟩;exact (((A.out.only O3 (by omega) l2).only O4 (by omega) l3)).lower z.out
def Qvz (N B g:Nat) (s:St) (W:World):Prop:=∃ cells:Array Value,Qp N B W (.agg cells) s∧Row W g 28 cells.toList
def Qt9 (s:St) (O:Out):Out:=if Qd s≠0 then Y7 St.none (Qd s) else if O.err≠0 then Y7 s O.err else O
theorem QrN (s:St) (m:Ms) (o:Nat→Option Addr) (c:Nat→Nat) (v:Value) (N:Nat) (w:World) (O:Out) (hv:StV w N v s) (hN:N≤w.heap.size) (C:s.fits)
  (G:Qd s=0→∀ W,Bd w W→Calls prog 31 #[v,.agg (msC m o c).toArray] W fun e w'=>Bd W w'∧∃ x,e=.returned x∧Qrc N W.heap.size w' x O) :
  Calls prog 8 #[v,.agg (msC m o c).toArray] w fun e w'=>Bd w w'∧∃ x,e=.returned x∧Qrc N w.heap.size w' x (Qt9 s O):=by
 have HW:=fun W (hb:Bd w W)=>Qdg s v N W (hv.below (hb.mono hN)) (Bh hN hb.size) C
 have E:=fun (h0:Qd s=0) W (hb:Bd w W)=>QlH s v N W (hv.below (hb.mono hN)) (Bh hN hb.size) C (QE h0)
 have HD:Qt9 s O=if Qd s≠0 then Y7 St.none (Qd s) else if O.err≠0 then Y7 s O.err else O:=rfl
 obtain ⟨o1,c1,o2,c2,o3,c3,o4,c4,o5,c5,o6,c6,o7,c7,rfl,-⟩:=hv.open
 go_in
 go_upto_region 1 with fail
 refine Qan ?_;intro w0 F0 hs
 go_wp2_with (refine F0.load 0 rfl Qa ?_)
 refine (HW _ F0.b).mono ?_;rintro e w1 ⟨rfl,aA⟩;have F1:=F0.go aA
 by_cases hz:Qd s=0
 ·replace HD:=hid (HD.trans (if_neg (by simp [hz])))
  replace G:=hid (G hz);replace E:=hid (E hz);rw [hz]
  go_wp2_with (first | refine F1.load 0 rfl Qa ?_ | refine F1.load 1 rfl Z7 ?_)
  refine (G _ F1.b).mono ?_;rintro e w2 ⟨L,x,rfl,v',od,nd,cd,rfl,hh,hp⟩;have F2:=F1.go L;have l3:=F1.r3.lt;have I:=hid F1.b.size;obtain ⟨a1,b1,d1,a2,b2,d2,a3,b3,d3,a4,b4,d4,a5,b5,d5,a6,b6,d6,a7,b7,d7,rfl⟩:=hh.open;have hb2s:=L.size
  go_upto_region 5 with (first | (refine FrB.store ((F2.addAt (t:=28) (cs:=[.string ⟨#[]⟩,Bb 0,Bb 0,Bc,Bc,Bc,Bc,Bc,Bc,Bc]) rfl).addAt (t:=58) (cs:=[Bb 0,Bb 0,Bb 0,Bb 0,Bb 0,Bc,Bb 0]) (g:=w2.heap.size+1) (by simp)) 4 rfl Qa (by simp) ?_;intro w3 F3 O3) | (refine F3.store 5 rfl QC (by simp) ?_;intro w4 F4 O4))
  have aB:=O3.down (((Bi w2.heap.size w2).alloc (Bj _) _).alloc (by simp) _) (Bj _)
  have M:=O4.down aB (by omega)
  replace hh:=hid (hh.below M);replace hp:=hid (hp.below M);have T:=hid F4.b.size;have y0:w4.cell? ⟨w2.heap.size+1,0,none⟩=some (Bb O.err):=F4.r5.cell 0
  by_cases hz:O.err=0
  ·rw [if_neg (by simp [hz])] at HD
   have HZ:=hid hz;have aD:(O.err != 0)=false:=by simpa using hz
   clear hz
   go_upto_region 7 with fail
   have aC:=F4.r3.lt
   have HR:=hid (show Rel (Wr [w.heap.size+1+1,w.heap.size+1+1+1] [fun W=>Row W (w.heap.size+1+1) 28 [.string O.st.name,Bb O.st.height,Bb O.st.time,.slice a1 b1 d1,.slice a2 b2 d2,.slice a3 b3 d3,.slice a4 b4 d4,.slice a5 b5 d5,.slice a6 b6 d6,.slice a7 b7 d7],fun W=>Row W (w.heap.size+1+1+1) 58 [Bb O.err,Bb O.num,Bb O.pk.src,Bb O.pk.dst,Bb O.pk.seq,.slice od nd cd,Bb O.pk.tmo],Sp (w.heap.size+1+1) 28 10,Sp (w.heap.size+1+1+1) 58 7]) from Wr.rel (by
    intro A hA W W' hb h;simp only [Bo,BH,BI] at hA
    rcases hA with rfl | rfl | rfl | rfl
    ·exact Row.below h hb (Row.lt h)
    ·exact Row.below h hb (Row.lt h)
    ·exact Sp.low hb h
    ·exact Sp.low hb h))
   have S2:Sp (w.heap.size+1+1) 28 10 w4:=⟨_,F4.r2,rfl⟩;have S3:Sp (w.heap.size+1+1+1) 58 7 w4:=⟨_,F4.r3,rfl⟩;apply QhZ HR.out (by kernel_rfl) (fun W hb=>And.intro (hb.row F4.r4 (by simp;omega)).k10 (hb.row F4.r5 (by simp;omega)).k7) (by kernel_rfl)
   ·intro σ;simp [Ql];exact rfl
   iterate 2 (apply RS.val HR.out rfl;· intro σ W hb hc ⟨hd,hu⟩;simp at hd hu;go_simp;exact rfl)
   apply RS.store (fun W=>Row W (w.heap.size+1+1) 28 [.string O.st.name,Bb O.st.height,Bb O.st.time,.slice a1 b1 d1,.slice a2 b2 d2,.slice a3 b3 d3,.slice a4 b4 d4,.slice a5 b5 d5,.slice a6 b6 d6,.slice a7 b7 d7]) (fun W W' hb h=>hb.2.2 (fun W=>Row W (w.heap.size+1+1) 28 [.string O.st.name,Bb O.st.height,Bb O.st.time,.slice a1 b1 d1,.slice a2 b2 d2,.slice a3 b3 d3,.slice a4 b4 d4,.slice a5 b5 d5,.slice a6 b6 d6,.slice a7 b7 d7]) (by simp) h) rfl rfl (fun W hb=>hb.2.2 _ (by simp) S2) Qa
   ·intro σ W hb hc ⟨hd,hu⟩
    have e0:σ 0=.agg #[.string O.st.name,Bb O.st.height,Bb O.st.time,.slice a1 b1 d1,.slice a2 b2 d2,.slice a3 b3 d3,.slice a4 b4 d4,.slice a5 b5 d5,.slice a6 b6 d6,.slice a7 b7 d7]:=hd ⟨0,.data⟩ (by simp) (by decide)
    refine ⟨_,rfl,e0,rfl,by simp,fun W' g2 g3=>⟨Wr.write g2 (by simp) ?_,g3⟩⟩
    intro A hA h;simp only [Bo,BH,BI] at hA
    rcases hA with rfl | rfl | rfl | rfl
    ·exact g3
    ·exact (g2.same _ (by omega)).trans h
    ·exact ⟨_,g3,rfl⟩
    ·exact Sp.only g2 (by omega) h
   apply RS.store (fun W=>Row W (w.heap.size+1+1+1) 58 [Bb O.err,Bb O.num,Bb O.pk.src,Bb O.pk.dst,Bb O.pk.seq,.slice od nd cd,Bb O.pk.tmo]) (fun W W' hb h=>hb.2.2 (fun W=>Row W (w.heap.size+1+1+1) 58 [Bb O.err,Bb O.num,Bb O.pk.src,Bb O.pk.dst,Bb O.pk.seq,.slice od nd cd,Bb O.pk.tmo]) (by simp) h) rfl rfl (fun W hb=>hb.2.2 _ (by simp) S3) QC
   ·intro σ W hb hc ⟨hd,hu⟩
    have e1:σ 1=.agg #[Bb O.err,Bb O.num,Bb O.pk.src,Bb O.pk.dst,Bb O.pk.seq,.slice od nd cd,Bb O.pk.tmo]:=hd ⟨1,.data⟩ (by simp) (by decide)
    refine ⟨_,rfl,e1,rfl,by simp,fun W' g2 g3=>⟨Wr.write g2 (by simp) ?_,g3⟩⟩
    intro A hA h;simp only [Bo,BH,BI] at hA
    rcases hA with rfl | rfl | rfl | rfl
    ·exact (g2.same _ (by omega)).trans h
    ·exact g3
    ·exact Sp.only g2 (by omega) h
    ·exact ⟨_,g3,rfl⟩
   intro σ W hb _;simp only [JE,Bv,By,Nat.reduceAdd];intro hF;obtain ⟨-,-,h2,h3,-⟩:=hF;have D:=F4.b.trans (hb.below (by omega) (by simp;omega))
   have H1:=hh.on hb.1 fun b q hF=>hb.2.1 b q (by simp;omega)
   have H4:=hp.past hb.1 fun b q hF=>hb.2.1 b q (by simp;omega)
   go_wp2;refine Qbc results8 rfl h2 Qa rfl h3 QC rfl ⟨D,_,rfl,?_⟩;rw [HD];exact ⟨_,od,nd,cd,rfl,H1.lower I.out,H4.lower I.out⟩
  ·rw [if_pos hz] at HD
   have aD:(O.err != 0)=true:=by simpa using hz
   go_upto_region 6 with fail
   have aC:=F4.r3.lt
   have HR:=hid (show Rel (Wr [w.heap.size+1+1,w.heap.size+1+1+1] [Qvz N w4.heap.size (w.heap.size+1+1) s,fun W=>Row W (w.heap.size+1+1+1) 58 [Bb O.err,Bb 0,Bb 0,Bb 0,Bb 0,Bc,Bb 0],Sp (w.heap.size+1+1) 28 10,Sp (w.heap.size+1+1+1) 58 7]) from Wr.rel (by
    intro A hA W W' hb h;simp only [Bo,BH,BI] at hA
    rcases hA with rfl | rfl | rfl | rfl
    ·obtain ⟨j,h1,h2⟩:=h;exact ⟨j,h1.below hb,h2.below hb h2.lt⟩
    ·exact Row.below h hb (Row.lt h)
    ·exact Sp.low hb h
    ·exact Sp.low hb h))
   have S2:Sp (w.heap.size+1+1) 28 10 w4:=⟨_,F4.r2,rfl⟩;have S3:Sp (w.heap.size+1+1+1) 58 7 w4:=⟨_,F4.r3,rfl⟩;apply QhZ HR.out (by kernel_rfl) (fun W hb=>And.intro (hb.row F4.r0 (by simp;omega)).k10 ((hb.row F4.r5 (by simp;omega)).cell 0)) (by kernel_rfl)
   ·intro σ;simp [Ql];exact rfl
   apply RS.val HR.out rfl;· intro σ W hb hc ⟨hd,hu⟩;simp at hd hu;go_simp;exact rfl
   apply RS.callG (fun X W=>Qp N w4.heap.size W X s) (fun _ W W' hb h=>h.on hb.1 fun b q hF=>hb.2.1 b q (by simp;omega)) rfl
   ·intro σ W hb hc ⟨hd,hu⟩;simp at hd hu
    refine ⟨_,_,by go_simp <;> first | exact rfl | exact ⟨rfl,rfl⟩,(E W (F4.b.trans (hb.below (by omega) (by simp;omega)))).mono ?_⟩
    rintro e w' ⟨Y,p1,d1,p2,d2,p3,d3,p4,d4,p5,d5,p6,d6,p7,d7,rfl,S⟩;exact ⟨_,rfl,HR.out.low _ _ Y,S.holds.lower hb.1.size⟩
   iterate 3 (apply RS.val HR.out rfl;· intro σ W hb hc ⟨hd,hu⟩;simp at hd hu;go_simp;exact rfl)
   apply RS.store (Qvz N w4.heap.size (w.heap.size+1+1) s) (fun W W' hb h=>hb.2.2 _ (by simp) h) rfl rfl (fun W hb=>hb.2.2 _ (by simp) S2) Qa
   ·intro σ W hb hc ⟨hd,hu⟩
    have z:Qp N w4.heap.size W (σ 1) s:=hd ⟨1,.data⟩ (by simp) (by decide)
    obtain ⟨p1,q1,r1,p2,q2,r2,p3,q3,r3,p4,q4,r4,p5,q5,r5,p6,q6,r6,p7,q7,r7,e1⟩:=z.open;rw [e1] at z;refine ⟨_,rfl,e1,rfl,by simp,fun W' g2 g3=>⟨Wr.write g2 (by simp) ?_,_,z.only g2 (by omega) (by omega),g3⟩⟩
    intro A hA h;simp only [Bo,BH,BI] at hA
    rcases hA with rfl | rfl | rfl | rfl
    ·exact ⟨_,z.only g2 (by omega) (by omega),g3⟩
    ·exact (g2.same _ (by omega)).trans h
    ·exact ⟨_,g3,rfl⟩
    ·exact Sp.only g2 (by omega) h
   apply RS.store (fun W=>Row W (w.heap.size+1+1+1) 58 [Bb O.err,Bb 0,Bb 0,Bb 0,Bb 0,Bc,Bb 0]) (fun W W' hb h=>hb.2.2 (fun W=>Row W (w.heap.size+1+1+1) 58 [Bb O.err,Bb 0,Bb 0,Bb 0,Bb 0,Bc,Bb 0]) (by simp) h) rfl rfl (fun W hb=>hb.2.2 _ (by simp) S3) QC
   ·intro σ W hb hc ⟨hd,hu⟩
    have e4:σ 4=.agg #[Bb O.err,Bb 0,Bb 0,Bb 0,Bb 0,Bc,Bb 0]:=hd ⟨4,.data⟩ (by simp) (by decide)
    refine ⟨_,rfl,e4,rfl,by simp,fun W' g2 g3=>⟨Wr.write g2 (by simp) ?_,g3⟩⟩
    intro A hA h;simp only [Bo,BH,BI] at hA
    rcases hA with rfl | rfl | rfl | rfl
    ·obtain ⟨j,h1,h2⟩:=h;exact ⟨j,h1.only g2 (by omega) (by omega),(g2.same _ (by omega)).trans h2⟩
    ·exact g3
    ·exact Sp.only g2 (by omega) h
    ·exact ⟨_,g3,rfl⟩
   intro σ W hb _;simp only [JE,Bv,By,Nat.reduceAdd];intro hF;obtain ⟨-,-,-,-,-,⟨j,h1,h2⟩,h3,-⟩:=hF;have D:=F4.b.trans (hb.below (by omega) (by simp;omega))
   obtain ⟨p1,q1,r1,p2,q2,r2,p3,q3,r3,p4,q4,r4,p5,q5,r5,p6,q6,r6,p7,q7,r7,e1⟩:=h1.open;obtain rfl:j=_:=(Dz e1);go_wp2;refine Qbc results8 rfl h2 Qa rfl h3 QC rfl ⟨D,_,rfl,?_⟩;rw [HD];exact ⟨_,none,0,0,rfl,h1.lower T.out,Jr _ _ _⟩
 ·replace HD:=hid (HD.trans (if_pos hz))
  generalize Qd s=ws at *
  go_wp2_with (first | (refine F1.store 2 rfl Qa (by simp) ?_;intro w3 F3 O3) | (refine F3.store 3 rfl QC (by simp) ?_;intro w4 F4 O4))
  refine Qbc results8 rfl F4.r2 Qa rfl F4.r3 QC rfl ⟨F4.b,_,rfl,?_⟩;rw [HD];exact ⟨_,none,0,0,rfl,Qg _ _ _,Jr _ _ _⟩
theorem YQ.held {w:World} {base:Nat} {v:Value} {l:List Kn} (h:YQ w base v l):QM (fun b=>base≤b∧b<w.heap.size) w (fun w2=>Jj w2 w2.heap.size v l):=by
 obtain ⟨ps,h,rfl⟩:=h;exact h.held
theorem YQ.shape {w:World} {base:Nat} {v:Value} {l:List Kn} (h:YQ w base v l):∃ o n c,v=.slice o n c:=by
 obtain ⟨ps,h,-⟩:=h;obtain ⟨o,c,e,-⟩:=h.shape;exact ⟨o,_,c,e⟩
theorem Qf4 {N B base m:Nat} {w:World} {s:St} {l:List Cl} {rs:List (List Value)} {v1 v2 v3 v4 v5 v6 v7:Value} (h0:rs.length=l.length) (h:Qf 78 4 w base v1 rs) (hB:B≤base) (hm:B≤m) (he:∀ (i:Nat) r x,rs[i]?=some r→l[i]?=some x→QM (fun b=>(b<N∨B≤b)∧b<w.heap.size) w (fun w2=>ClR w2 w2.heap.size r x)) (hr:QgP N base m w s v2 v3 v4 v5 v6 v7) :
  Qp N B w (.agg #[.string s.name,Bb s.height,Bb s.time,v1,v2,v3,v4,v5,v6,v7]) { s with clients:=l }:=by
 refine ⟨fun b hF=>hF.2,fun w2 hb hk=>?_⟩
 have hq:=(Qu.on hr hb fun b e hZ=>hk b ⟨hZ.imp id (Bh hm),e⟩).mem
 exact ⟨v1,v2,v3,v4,v5,v6,v7,rfl,⟨rs,h0,(Qf.keep h fun g hg=>hk g ⟨.inr (Bh hB (Qf.own h g hg).1),(Qf.own h g hg).2⟩).recs,fun i r x hr hx=>(he i r x hr hx).2 w2 hb hk⟩,hq.conns,hq.chans,hq.sent,hq.got,hq.acks,hq.purses⟩
theorem QgP.on {N base m:Nat} {w w':World} {s:St} {v2 v3 v4 v5 v6 v7:Value} (h:QgP N base m w s v2 v3 v4 v5 v6 v7) (hb:Below 0 w w') (hk:∀ b,b<w.heap.size→b<N∨m≤b→w'.heap[b]?=w.heap[b]?):QgP N base m w' s v2 v3 v4 v5 v6 v7:=Qu.on h hb hk
theorem QrD (s:St) (v:Value) (N:Nat) (w:World) (hv:StV w N v s) (hN:N≤w.heap.size) (j:s.fits) (b:few s):Calls prog 32 #[v] w fun e w'=>Bd w w'∧∃ p1 d1 p2 d2 p3 d3 p4 d4 p5 d5 p6 d6 p7 d7 m,e=.returned (.agg #[.string s.name,Bb s.height,Bb s.time,.slice p1 s.clients.length d1,.slice p2 s.conns.length d2,.slice p3 s.chans.length d3,.slice p4 s.sent.length d4,.slice p5 s.got.length d5,.slice p6 s.acks.length d6,.slice p7 s.purses.length d7])∧(w.heap.size≤m∧m≤w'.heap.size)∧QcM N w.heap.size m w' (.slice p1 s.clients.length d1) s.clients∧QgP N w.heap.size m w' s (.slice p2 s.conns.length d2) (.slice p3 s.chans.length d3) (.slice p4 s.sent.length d4) (.slice p5 s.got.length d5) (.slice p6 s.acks.length d6) (.slice p7 s.purses.length d7):=by
 obtain ⟨o1,c1,o2,c2,o3,c3,o4,c4,o5,c5,o6,c6,o7,c7,rfl,hm⟩:=hv.open;exact (QuU s o1 o2 o3 o4 o5 o6 o7 c1 c2 c3 c4 c5 c6 c7 N N w hm ⟨hm.clients,hm.conns,hm.chans,hm.sent,hm.got,hm.acks,Qt.nil _ _ _ _⟩ (by omega) hN j b).mono fun _ _ ⟨hb,p1,d1,p2,d2,p3,d3,p4,d4,p5,d5,p6,d6,p7,d7,e,_,m,h⟩=>⟨hb,p1,d1,p2,d2,p3,d3,p4,d4,p5,d5,p6,d6,p7,d7,m,e,h⟩
theorem Qst {ch:ByteArray} {tr:Int} {k:Kn} (h:Qy (YP ch tr k)=0):QhP ch tr k=YP ch tr k:=by unfold QhP;rw [if_pos h]
theorem QiS (s:St) (m:Ms) (o:Nat→Option Addr) (c:Nat→Nat) (v:Value) (N:Nat) (w:World) (hv:StV w N v s) (hm:MsM w N m o c) (hN:N≤w.heap.size) (I:s.fits) (T:m.fits) (hw:Qd s=0) :
  Calls prog 47 #[v,.agg (msC m o c).toArray] w fun e w'=>Bd w w'∧∃ v',e=.returned (.tuple #[v',Bb (Qss s m).num,Bb (QkS s m)])∧Qp N w.heap.size w' v' (Qvl s m):=by
 have aL:=hid (fun W (hb:Bd w W)=>Qvd m.chain m.trust m.known _ N W (hm.known.below (hb.mono hN)) (Bh hN hb.size) T.1 T.2.1)
 have aG:=hid (fun W (hb:Bd w W)=>QrD s v N W (hv.below (hb.mono hN)) (Bh hN hb.size) I (QE hw))
 have HE:=hid (show QkS s m=if 4≤s.clients.length then 5 else Qy (YP m.chain m.trust m.known) from rfl)
 have A:=hid (show Qvl s m=if QkS s m=0 then { s with clients:=s.clients ++ [YP m.chain m.trust m.known] } else St.none from rfl)
 have z:=hid (show (Qss s m).num=if QkS s m=0 then (s.clients.length:Int) else 0 from rfl)
 have hlc:s.clients.length≤100:=(QE hw).1;obtain ⟨o1,c1,o2,c2,o3,c3,o4,c4,o5,c5,o6,c6,o7,c7,rfl,-⟩:=hv.open;clear hv hm I T hw;generalize s.purses.length=n7,s.conns.length=n2,s.chans.length=n3,s.sent.length=n4,s.got.length=n5,s.acks.length=n6 at *
 go_in
 go_upto_region 1 with fail
 refine JR ?_;intro w0 F0 hs;clear hs;have k3:=F0.r0.k10.2.2.2.1
 by_cases h4:4≤s.clients.length
 ·have e4:decide ((4:Int)≤(s.clients.length:Int))=true:=by simp;omega
  replace HE:=hid (HE.out.trans (if_pos h4));rw [HE.out] at A z;generalize s.clients.length=n1 at *;clear h4
  go_wp2_with (refine F0.store 2 rfl Qa (by simp) ?_;intro w5 F5 O5)
  refine Ya results47 rfl F5.r2 Qa rfl ⟨F5.b,_,by rw [HE.out,z.out];rfl,?_⟩
  rw [A.out];exact Qg _ _ _
 ·have e4:decide ((4:Int)≤(s.clients.length:Int))=false:=by simp;omega
  replace HE:=hid (HE.out.trans (if_neg h4));clear h4;have q1:w0.cell? ⟨w.heap.size+1,1,none⟩=some (.string m.chain):=F0.r1.cell 1;have q2:w0.cell? ⟨w.heap.size+1,2,none⟩=some (Bb m.trust):=F0.r1.cell 2
  go_wp2_with (refine F0.loadMid 1 3 [Bb m.known.height,Bb m.known.time,.slice (o 0) m.known.root.length (c 0),.slice (o 1) m.known.next.length (c 1)] rfl rfl rfl rfl rfl Y9 ?_)
  refine (aL.out _ F0.b).mono ?_;rintro e w1 ⟨O,ko,kn,kc,rfl,hk⟩;have F1:=F0.go O;have HK:=hid hk.held;have l0:=F0.r0.lt;have l2:=F0.r2.lt;have aD:=hid F0.b.size;have aT:=hid O.size;clear O hk aL F0 q1 q2 k3
  by_cases hz:Qy (YP m.chain m.trust m.known)=0
  ·rw [Qst hz] at HK ⊢
   rw [hz] at HE ⊢;rw [if_pos HE.out] at A z;clear hz;generalize YP m.chain m.trust m.known=x at *
   go_upto_region 5 with fail
   refine F1.box ?_;intro w2 F2 aB C;have aI:=hid (HK.out.below C);have aU:=hid (Bh aT.out C.size);have aC:=hid C.size;clear aB C F1 HK
   go_wp2_with (refine F2.load 0 rfl Qa ?_)
   refine (aG.out _ F2.b).mono ?_;rintro e w3 ⟨G,p1,d1,p2,d2,p3,d3,p4,d4,p5,d5,p6,d6,p7,d7,mm,rfl,hmm,aO,aS⟩;have F3:=F2.go G;have aJ:=hid (aI.out.below G);have aF:=hid aO;have aN:=hid aS;have hb3s:=G.size;have L2:=hid F2.lts;clear G aO aS aI aG
   go_upto_region 8 with (refine F3.store 0 rfl Qa (by simp) ?_;intro w4 F4 O4)
   have hB2:=aU.out;have aK:=hid (aJ.out.on O4.below fun b hF=>O4.same b (by omega))
   have aE:=hid (aF.out.on O4.below fun b D hF=>O4.same b (by omega))
   have aM:=hid (aN.out.on O4.below fun b D hF=>O4.same b (by omega))
   have M:=O4.size;have aW:=hid M;clear aJ aF aN O4 F3 F2 M;have k3:=F4.r0.k10.2.2.2.1;obtain ⟨a0,a1,a2,a3⟩:=F4.r3.k4
   go_wp2_with (at_builtin;refine Hid.out ?_)
   refine hid ?_;refine Qvb ?_;intro w5 aR j;have aZ:=aW.out;have a4:=j.size;obtain ⟨rs,g1,g2,g3,g4⟩:=aE.out.on (j.mono (BF _)) fun b D _=>j.block b (by omega)
   have aA:rs.length=s.clients.length:=g1
   refine ZO QsU rfl _ _ rfl w2.heap.size _ rs rfl g2 _ _ [.string x.chain,Bb x.trust,.bool x.frozen,.slice ko kn kc] rfl (QgJ aR) (fun q hq=>by obtain rfl:=BQ.1 hq;exact ⟨rfl,fun y hy=>by simp at hy;rcases hy with rfl | rfl | rfl | rfl <;> rfl⟩) (by omega) (by omega) ?_
   intro g da w6 L S E aQ;have F6:=(F4.go j).past S (by have:=aD.out;omega) L2.out
   have Y:∀ k,(Value.slice p1 s.clients.length d1).ownBlock=some k→w2.heap.size≤k∧k<mm:=fun k e=>⟨(Qf.own g2 k e).1,g3 k e⟩
   have aH:=hid (show Qp N w0.heap.size w6 (.agg #[.string s.name,Bb s.height,Bb s.time,.slice (some ⟨g,0,none⟩) (rs.length+1) da,.slice p2 n2 d2,.slice p3 n3 d3,.slice p4 n4 d4,.slice p5 n5 d5,.slice p6 n6 d6,.slice p7 n7 d7]) { s with clients:=s.clients ++ [x] } from
    Qf4 (base:=w2.heap.size) (m:=mm) (by simp [aA]) L (by omega) (by omega) (fun i r y hr hy=>by
     by_cases hi:i<rs.length
     ·rw [Cw hi] at hr
      rw [Cw (by omega)] at hy
      exact ((g4 i r y hr hy).grown E (fun k e hF=>hF.1 e.symm)).wide (fun b hF=>⟨hF.2.1.imp id (fun h=>by omega),by have:=S.size;omega⟩) (fun b hF=>hF.2)
     ·have hil:i<rs.length+1:=by have:=(Bm.1 hr).1;simpa using this
      obtain rfl:i=rs.length:=by omega
      obtain rfl:_=r:=by simpa using hr
      rw [aA] at hy;obtain rfl:x=y:=by simpa using hy
      have aP:=(aK.out.below j).grown E (fun k e hF=>by have:=Y k e;have:=aC.out;omega)
      exact ⟨fun b hF=>hF.2,fun a5 aX aY=>⟨_,rfl,aP.2 a5 aX fun b hF=>aY b ⟨.inr hF.1,aP.1 b hF⟩⟩⟩)
     ((aM.out.on (j.mono (BF _)) fun b D _=>j.block b D).on (Qcf E) fun b D hF=>E.block b D fun e=>by have:=Y b e.symm;omega))
   generalize rs.length+1=nl at *;clear L S E aQ aR j g1 g2 g3 g4 Y aK aE aM a0 a1 a2 a3 k3 aZ a4 aA F4;have k3:=F6.r0.k10.2.2.2.1;have z3:=F6.r0.frozen 3
   go_upto_region 9 with fail
   refine F6.cell 0 rfl ?_;intro w7 F7 O7;have aV:=hid (aH.out.only O7 hN l0);clear k3 z3 O7 aH F6
   go_wp2_with (first | refine F7.load 0 rfl Qa ?_ | (refine F7.store 2 rfl Qa (by simp) ?_;intro w8 F8 O8))
   refine Ya results47 rfl F8.r2 Qa rfl ⟨F8.b,_,by rw [HE.out,z.out];rfl,?_⟩
   rw [A.out];exact (aV.out.only O8 (by omega) l2).lower aD.out
  ·have hzb:(Qy (YP m.chain m.trust m.known) != 0)=true:=by simpa using hz
   rw [if_neg (by rw [HE.out];exact hz)] at A z
   clear hz HK;generalize QhP m.chain m.trust m.known=x at *;generalize Qy (YP m.chain m.trust m.known)=ze at *
   go_upto_region 5 with fail
   refine F1.box ?_;intro w2 F2 aB C;clear aB C F1
   go_wp2_with (refine F2.store 2 rfl Qa (by simp) ?_;intro w5 F5 O5)
   refine Ya results47 rfl F5.r2 Qa rfl ⟨F5.b,_,by rw [HE.out,z.out];rfl,?_⟩
   rw [A.out];exact Qg _ _ _
theorem Qto (x:Cl) (m:Ms) (o:Nat→Option Addr) (c:Nat→Nat) (cv:Value) (N:Nat) (w:World) (now:Int) (hv:ClV w N cv x) (hm:MsM w N m o c) (hN:N≤w.heap.size) (q:x.fits) (A:m.fits) (z:Qi w) :
  Calls prog 77 #[cv,.agg (msC m o c).toArray,Bb now] w fun e w'=>Bd w w'∧∃ o n k,e=.returned (.tuple #[.agg #[.string (Qb1 x m now).chain,Bb (Qb1 x m now).trust,.bool (Qb1 x m now).frozen,.slice o n k],Bb (Qfm x m now)])∧YQ w' w.heap.size (.slice o n k) (Qb1 x m now).known:=by
 have E:=hid (fun W (hb:Bd w W)=>QpF x m.upd now cv _ N W (z.past hb) (Bh hN hb.size) (hv.below (hb.mono hN)) (hm.upd.below (hb.mono hN)) q A.2.2.1)
 have D:=hid (fun W (hb:Bd w W)=>Qrt x m.upd m.sec now cv _ _ N W (z.past hb) (Bh hN hb.size) (hv.below (hb.mono hN)) (hm.upd.below (hb.mono hN)) (hm.sec.below (hb.mono hN)) q A.2.2.1 A.2.2.2.1)
 have HE:=hid (show Qfm x m now=if m.kind=3 then Qea x m.upd m.sec now else Zo x m.upd now from rfl)
 have HC:=hid (show Qb1 x m now=if m.kind=3 then Qb7 x m.upd m.sec now else YM x m.upd now from rfl)
 obtain ⟨kv,rfl,hk⟩:=hv;obtain ⟨ok,ck,rfl,-⟩:=hk.shape;clear hk hm q A z;generalize x.known.length=kl at *
 go_in
 go_upto_region 1 with fail
 refine JR ?_;intro w0 F0 hs;clear hs;have q0:w0.cell? ⟨w.heap.size+1,0,none⟩=some (Bb m.kind):=F0.r1.cell 0
 by_cases hz:m.kind=3
 ·have e0:(m.kind == 3)=true:=by simpa using hz
  rw [if_pos hz] at HE HC;clear hz
  go_wp2_with (first | refine F0.load 0 rfl Qm ?_ | refine F0.loadMid 1 8 [Bb m.upd.frm,.string m.upd.sg.hd.chain,Bb m.upd.sg.hd.height,Bb m.upd.sg.hd.time,.slice (o 2) m.upd.sg.hd.root.length (c 2),.slice (o 3) m.upd.sg.hd.vals.length (c 3),.slice (o 4) m.upd.sg.hd.next.length (c 4),.slice (o 5) m.upd.sg.vals.length (c 5),.slice (o 6) m.upd.sg.votes.length (c 6),.slice (o 7) m.upd.trusted.length (c 7)] rfl rfl rfl rfl rfl ZA ?_ | refine F0.loadMid 1 18 [Bb m.sec.frm,.string m.sec.sg.hd.chain,Bb m.sec.sg.hd.height,Bb m.sec.sg.hd.time,.slice (o 8) m.sec.sg.hd.root.length (c 8),.slice (o 9) m.sec.sg.hd.vals.length (c 9),.slice (o 10) m.sec.sg.hd.next.length (c 10),.slice (o 11) m.sec.sg.vals.length (c 11),.slice (o 12) m.sec.sg.votes.length (c 12),.slice (o 13) m.sec.trusted.length (c 13)] rfl rfl rfl rfl rfl ZA ?_)
  refine (D.out _ F0.b).mono ?_;rintro e w1 ⟨j,ko,kn,kc,rfl,hk⟩;have F1:=F0.go j;have HK:=hid hk;have l2:=F0.r2.lt;have C:=hid F0.b.size;clear j hk F0 q0;generalize Qb7 x m.upd m.sec now=y at *;generalize Qea x m.upd m.sec now=ye at *
  go_wp2_with (refine F1.store 2 rfl Qm (by simp) ?_;intro w5 F5 O5)
  refine Qk results77 rfl F5.r2 Qm rfl ⟨F5.b,ko,kn,kc,by rw [HE.out,HC.out];rfl,?_⟩
  rw [HC.out];exact (HK.out.keep fun b hF=>O5.same b (by omega)).mono C.out
 ·have e0:(m.kind == 3)=false:=by simpa using hz
  rw [if_neg hz] at HE HC;clear hz
  go_wp2_with (first | refine F0.load 0 rfl Qm ?_ | refine F0.loadMid 1 8 [Bb m.upd.frm,.string m.upd.sg.hd.chain,Bb m.upd.sg.hd.height,Bb m.upd.sg.hd.time,.slice (o 2) m.upd.sg.hd.root.length (c 2),.slice (o 3) m.upd.sg.hd.vals.length (c 3),.slice (o 4) m.upd.sg.hd.next.length (c 4),.slice (o 5) m.upd.sg.vals.length (c 5),.slice (o 6) m.upd.sg.votes.length (c 6),.slice (o 7) m.upd.trusted.length (c 7)] rfl rfl rfl rfl rfl ZA ?_)
  refine (E.out _ F0.b).mono ?_;rintro e w1 ⟨j,ko,kn,kc,rfl,hk⟩;have F1:=F0.go j;have HK:=hid hk;have l2:=F0.r2.lt;have C:=hid F0.b.size;clear j hk F0 q0;generalize YM x m.upd now=y at *;generalize Zo x m.upd now=ye at *
  go_wp2_with (refine F1.store 2 rfl Qm (by simp) ?_;intro w5 F5 O5)
  refine Qk results77 rfl F5.r2 Qm rfl ⟨F5.b,ko,kn,kc,by rw [HE.out,HC.out];rfl,?_⟩
  rw [HC.out];exact (HK.out.keep fun b hF=>O5.same b (by omega)).mono C.out
theorem Qju {o:Oper} {ev:Operand→Value} {W:World} {g:Nat} {ty:TypeId} {x:Operand} {cs:List Value} (ho:o.op=.load ty x) (hx:ev x=.pointer (some ⟨g,0,none⟩)) (hr:Row W g ty cs) (hs:Qx ty cs.length):(execOp ev o).run prog W=.ok (.value (.agg cs.toArray)) W:=by
 unfold execOp;simp only [ho,hx,Instr.loadAt,Instr.sureAddr,CF,CN,CO,Yr hr hs]
structure TJ (w:World) (y:Cl) (ye:Int) (τ:Nat→Option Value) (W:World):Prop where
 low:Bd w W
 ans:∀ X,τ 9=some X→∃ o n k,X=.tuple #[.agg #[.string y.chain,Bb y.trust,.bool y.frozen,.slice o n k],Bb ye]∧YQ W w.heap.size (.slice o n k) y.known
 l10:∀ X,τ 10=some X→τ 9=some X
 l11:∀ X,τ 11=some X→∃ b,τ 9=some (.tuple #[X,b])
 l12:∀ X,τ 12=some X→X=Bb ye
 new:∀ X,τ 13=some X→∃ g,X=.pointer (some ⟨g,0,none⟩)∧w.heap.size≤g∧Sp g 78 4 W
 put:∀ X,τ 14=some X→∃ g o n k,τ 13=some (.pointer (some ⟨g,0,none⟩))∧τ 9=some (.tuple #[.agg #[.string y.chain,Bb y.trust,.bool y.frozen,.slice o n k],Bb ye])∧Row W g 78 [.string y.chain,Bb y.trust,.bool y.frozen,.slice o n k]
 l15:∀ X,τ 15=some X→X=Bb ye
theorem TJ.skip {w:World} {y:Cl} {ye:Int} {τ:Nat→Option Value} {W:World} (h:TJ w y ye τ W) {k:Nat} (hk:k<9) (v:Value):TJ w y ye (QD τ k v) W:=by
 have e:∀ i,9≤i→QD τ k v i=τ i:=fun i hi=>if_neg (by omega)
 refine ⟨h.low,?_,?_,?_,?_,?_,?_,?_⟩
 ·rw [e 9 (by omega)];exact h.ans
 ·rw [e 9 (by omega),e 10 (by omega)];exact h.l10
 ·rw [e 9 (by omega),e 11 (by omega)];exact h.l11
 ·rw [e 12 (by omega)];exact h.l12
 ·rw [e 13 (by omega)];exact h.new
 ·rw [e 9 (by omega),e 13 (by omega),e 14 (by omega)];exact h.put
 ·rw [e 15 (by omega)];exact h.l15
theorem YQ.other {w w':World} {base g:Nat} {t:TypeId} {v:Value} {l:List Kn} {cs:List Value} (h:YQ w base v l) (hr:Row w g t cs) (ht:t≠31) (b:t≠5) (ho:∀ j,j≠g→w'.heap[j]?=w.heap[j]?):YQ w' base v l:=by
 obtain ⟨ps,h,e⟩:=h;exact ⟨ps,h.other hr ht b ho,e⟩
theorem TJ.start {w:World} {y:Cl} {ye:Int}:TJ w y ye (fun _=>none) w.drew:=by
 refine ⟨(Bi _ _).drew,?_,?_,?_,?_,?_,?_,?_⟩ <;> (intro X h;cases h)
theorem Qdh (s:St) (m:Ms) (o:Nat→Option Addr) (c:Nat→Nat) (v:Value) (N:Nat) (w:World) (hv:StV w N v s) (hm:MsM w N m o c) (hN:N≤w.heap.size) (O:s.fits) (a9:m.fits) (aD:Qi w) (hw:Qd s=0) :
  Calls prog 49 #[v,.agg (msC m o c).toArray] w fun e w'=>Bd w w'∧∃ v',e=.returned (.tuple #[v',Bb (Qgr s m)])∧Qp N w.heap.size w' v' (QmW s m):=by
 have aY:=hid (fun (x:Cl) (cv:Value) W (hb:Bd w W) (hx:ClV W N cv x) (aq:x.fits)=>Qto x m o c cv N W s.time hx (hm.below (hb.mono hN)) (Bh hN hb.size) aq a9 (aD.past hb))
 have aN:=hid (fun W (hb:Bd w W)=>QrD s v N W (hv.below (hb.mono hN)) (Bh hN hb.size) O (QE hw))
 have HE:=hid (show Qgr s m=if m.client<0∨(s.clients.length:Int)≤m.client then 6 else Qfm (QiH s m.client) m s.time from rfl)
 have z:=hid (show QmW s m=if Qgr s m=0 then { s with clients:=s.clients.set m.client.toNat (Qb1 (QiH s m.client) m s.time) } else St.none from rfl)
 have aL:=hid O.2.1.2;obtain ⟨o1,c1,o2,c2,o3,c3,o4,c4,o5,c5,o6,c6,o7,c7,rfl,aI⟩:=hv.open;have aU:=hid (fun W (hb:Bd w W)=>(aI.below (hb.mono hN)).clients)
 clear hv hm aI O a9 hw aD;generalize s.purses.length=n7,s.conns.length=n2,s.chans.length=n3,s.sent.length=n4,s.got.length=n5,s.acks.length=n6 at *
 go_in
 go_upto_region 1 with fail
 refine JR ?_;intro w0 F0 hs;clear hs;have k3:=F0.r0.k10.2.2.2.1;have q7:w0.cell? ⟨w.heap.size+1,7,none⟩=some (Bb m.client):=F0.r1.cell 7
 by_cases h0:m.client<0
 ·have e0:decide (m.client<0)=true:=by simpa using h0
  replace HE:=hid (HE.out.trans (if_pos (.inl h0)));rw [HE.out] at z;generalize s.clients.length=n1 at *;clear h0
  go_wp2_with (refine F0.store 2 rfl Qa (by simp) ?_;intro w5 F5 O5)
  refine Qk results49 rfl F5.r2 Qa rfl ⟨F5.b,_,by rw [HE.out];rfl,?_⟩
  rw [z.out];exact Qg _ _ _
 have e0:decide (m.client<0)=false:=by simpa using h0
 by_cases h1:(s.clients.length:Int)≤m.client
 ·have e1:decide ((s.clients.length:Int)≤m.client)=true:=by simpa using h1
  replace HE:=hid (HE.out.trans (if_pos (.inr h1)));rw [HE.out] at z;clear h0 h1;generalize s.clients.length=n1 at *
  go_wp2_with (refine F0.store 2 rfl Qa (by simp) ?_;intro w5 F5 O5)
  refine Qk results49 rfl F5.r2 Qa rfl ⟨F5.b,_,by rw [HE.out];rfl,?_⟩
  rw [z.out];exact Qg _ _ _
 have e1:decide ((s.clients.length:Int)≤m.client)=false:=by simpa using h1
 replace HE:=hid (HE.out.trans (if_neg (by omega)))
 obtain ⟨k,hk⟩:∃ k:Nat,m.client=(k:Int):=⟨m.client.toNat,by omega⟩
 rw [hk] at HE z q7 e0 e1;rw [Eh] at z;have T:k<s.clients.length:=by omega
 have hlt':(k:Int)<(s.clients.length:Int):=by omega
 obtain ⟨x,hx⟩:∃ x,s.clients[k]?=some x:=⟨_,Bk T⟩;rw [QaS hx] at HE z;obtain ⟨b,f,rfl,gx⟩:=(aU.out w0 F0.b).spot (by omega)
 obtain ⟨am,r,hr,cx⟩:=gx k x hx;obtain ⟨kv,rfl,aH⟩:=hr;obtain ⟨ka,ma,rfl,-⟩:=aH.shape;have x0:=cx 0 _ rfl;have x1:=cx 1 _ rfl;have x2:=cx 2 _ rfl;have x3:=cx 3 _ rfl;simp only [BK] at x0;have aO:=hid (fun W (hb:Bd w0 W)=>show ClV W N (.agg #[.string x.chain,Bb x.trust,.bool x.frozen,.slice ka x.known.length ma]) x from ⟨_,rfl,aH.below (hb.mono (Bh hN F0.b.size))⟩)
 have L:b<w0.heap.size:=Bt am (Bh hN F0.b.size);have HX:=hid (And.intro x0 (And.intro x1 (And.intro x2 x3)));have aZ:=hid (aL.out x (Bn hx));have ai:=hid hx;have aT:=hid hk;clear gx cx aH x0 x1 x2 x3 hx h0 h1 aL aU hk;generalize x.known.length=xl at *
 go_upto_region 3 with fail
 have C:=hid F0;clear F0 k3 q7 e0 e1;apply Qba (J:=TJ w0 (Qb1 x m s.time) (Qfm x m s.time)) (by kernel_rfl) (fun τ W hj=>And.intro (C.out.go hj.low).r0.k10 (And.intro (show W.cell? ⟨w.heap.size+1,7,none⟩=some (Bb (k:Int)) from (C.out.go hj.low).r1.cell 7 |>.trans (by rw [← aT.out];rfl)) (And.intro ((hj.low.cell (p:=⟨b,f+k*4,none⟩) L).trans HX.out.1) (And.intro ((hj.low.cell (p:=⟨b,f+k*4+1,none⟩) L).trans HX.out.2.1) (And.intro ((hj.low.cell (p:=⟨b,f+k*4+2,none⟩) L).trans HX.out.2.2.1) (And.intro ((hj.low.cell (p:=⟨b,f+k*4+3,none⟩) L).trans HX.out.2.2.2) (hid (C.out.go hj.low).r1))))))) TJ.start (by kernel_rfl)
 ·intro σ;simp [Ql];exact rfl
 iterate 6 (apply RJ.val (fun τ W h=>h.skip (by decide) _) rfl;· intro σ W hc ⟨hd,hu⟩;simp at hd;go_simp;exact rfl)
 apply RJ.val (fun τ W h=>h.skip (by decide) _) rfl;· intro σ W hc _;exact Qju rfl rfl hc.2.2.2.2.2.2.out Z7
 iterate 2 (apply RJ.val (fun τ W h=>h.skip (by decide) _) rfl;· intro σ W hc ⟨hd,hu⟩;simp at hd;go_simp;exact rfl)
 apply RJ.call (fun _=>True) rfl
 ·intro σ W τ hj hc ha hn ⟨hd,hu⟩
  simp at hd hu;refine ⟨_,_,by go_simp <;> first | exact rfl | exact ⟨rfl,rfl⟩,(aY.out x _ W (C.out.go hj.low).b (aO.out W hj.low) aZ.out).mono ?_⟩
  rintro e w' ⟨G,o',n',k',rfl,aF⟩
  have aa:∀ j,10≤j→j≤11→τ j=none:=fun j h1 h2=>by
   cases hτ:τ j with
   | none=>rfl
   | some X =>
    obtain rfl | rfl:j=10∨j=11:=by omega
    ·rw [hj.l10 X hτ] at hn;cases hn
    ·obtain ⟨b,hb⟩:=hj.l11 X hτ
     rw [hb] at hn;cases hn
  have Y:τ 14=none:=by
   cases hτ:τ 14 with
   | none=>rfl
   | some X =>
    obtain ⟨_,_,_,_,_,h9,_⟩:=hj.put X hτ;rw [h9] at hn;cases hn
  refine ⟨_,rfl,⟨hj.low.trans (G.mono hj.low.size),fun X h=>?_,fun X h=>?_,fun X h=>?_,fun X h=>hj.l12 X (by simpa [QD] using h),fun X h=>?_,fun X h=>?_,fun X h=>hj.l15 X (by simpa [QD] using h)⟩,trivial⟩
  ·obtain rfl:_=X:=by simpa [QD] using h
   exact ⟨o',n',k',rfl,aF.mono hj.low.size⟩
  ·rw [show QD τ 9 _ 10=τ 10 from rfl,aa 10 (by omega) (by omega)] at h
   cases h
  ·rw [show QD τ 9 _ 11=τ 11 from rfl,aa 11 (by omega) (by omega)] at h
   cases h
  ·obtain ⟨g,e,h1,h2⟩:=hj.new X (by simpa [QD] using h)
   exact ⟨g,e,h1,h2.low G⟩
  ·rw [show QD τ 9 _ 14=τ 14 from rfl,Y] at h
   cases h
 apply RJ.new rfl
 ·intro σ W τ hj hc ha hn ⟨hd,hu⟩
  have h9:τ 9=some (σ 9):=ha ⟨9,.data⟩ (by simp) (by decide)
  refine ⟨σ 9,W,by go_simp,⟨hj.low,fun X h=>hj.ans X (by simpa [QD] using h),fun X h=>?_,fun X h=>hj.l11 X (by simpa [QD] using h),fun X h=>hj.l12 X (by simpa [QD] using h),fun X h=>hj.new X (by simpa [QD] using h),fun X h=>hj.put X (by simpa [QD] using h),fun X h=>hj.l15 X (by simpa [QD] using h)⟩⟩
  obtain rfl:σ 9=X:=by simpa [QD] using h
  simpa [QD] using h9
 apply RJ.new rfl
 ·intro σ W τ hj hc ha hn ⟨hd,hu⟩
  have aA:τ 10=some (σ 10):=ha ⟨10,.data⟩ (by simp) (by decide)
  obtain ⟨o',n',k',a4,-⟩:=hj.ans _ (hj.l10 _ aA);have h9:=hj.l10 _ aA;rw [a4] at h9;refine ⟨.agg #[.string (Qb1 x m s.time).chain,Bb (Qb1 x m s.time).trust,.bool (Qb1 x m s.time).frozen,.slice o' n' k'],W,by go_simp,⟨hj.low,fun X h=>hj.ans X (by simpa [QD] using h),fun X h=>hj.l10 X (by simpa [QD] using h),fun X h=>?_,fun X h=>hj.l12 X (by simpa [QD] using h),fun X h=>hj.new X (by simpa [QD] using h),fun X h=>hj.put X (by simpa [QD] using h),fun X h=>hj.l15 X (by simpa [QD] using h)⟩⟩
  obtain rfl:_=X:=by simpa [QD] using h
  exact ⟨_,h9⟩
 apply RJ.new rfl
 ·intro σ W τ hj hc ha hn ⟨hd,hu⟩
  have aA:τ 10=some (σ 10):=ha ⟨10,.data⟩ (by simp) (by decide)
  obtain ⟨o',n',k',a4,-⟩:=hj.ans _ (hj.l10 _ aA);refine ⟨Bb (Qfm x m s.time),W,by go_simp,⟨hj.low,fun X h=>hj.ans X (by simpa [QD] using h),fun X h=>hj.l10 X (by simpa [QD] using h),fun X h=>hj.l11 X (by simpa [QD] using h),fun X h=>?_,fun X h=>hj.new X (by simpa [QD] using h),fun X h=>hj.put X (by simpa [QD] using h),fun X h=>hj.l15 X (by simpa [QD] using h)⟩⟩
  obtain rfl:_=X:=by simpa [QD] using h
  rfl
 apply RJ.new rfl
 ·intro σ W τ hj hc ha hn ⟨hd,hu⟩
  have G:Bd W (W.alloc (.cells #[.string ⟨#[]⟩,Bb 0,.bool false,Bc] 78)):=(Bi _ _).alloc (Bj _) _
  have Y:τ 14=none:=by
   cases hτ:τ 14 with
   | none=>rfl
   | some X =>
    obtain ⟨_,_,_,_,h9,_,_⟩:=hj.put X hτ;rw [h9] at hn;cases hn
  refine ⟨_,_,by go_simp;exact rfl,⟨hj.low.trans (G.mono hj.low.size),fun X h=>?_,fun X h=>hj.l10 X (by simpa [QD] using h),fun X h=>hj.l11 X (by simpa [QD] using h),fun X h=>hj.l12 X (by simpa [QD] using h),fun X h=>?_,fun X h=>?_,fun X h=>hj.l15 X (by simpa [QD] using h)⟩⟩
  ·obtain ⟨o',n',k',e,h1⟩:=hj.ans X (by simpa [QD] using h)
   exact ⟨o',n',k',e,h1.below G⟩
  ·obtain rfl:_=X:=by simpa [QD] using h
   exact ⟨_,rfl,hj.low.size,_,Row.new _ _ _,rfl⟩
  ·rw [show QD τ 13 _ 14=τ 14 from rfl,Y] at h
   cases h
 apply RJ.store rfl rfl Qm
 ·intro σ W τ hj hc ha hn ⟨hd,hu⟩
  have E:τ 13=some (σ 13):=ha ⟨13,.data⟩ (by simp) (by decide)
  have aj:τ 11=some (σ 11):=ha ⟨11,.data⟩ (by simp) (by decide)
  obtain ⟨g,D,hg,ad⟩:=hj.new _ E;obtain ⟨b',h9⟩:=hj.l11 _ aj;obtain ⟨o',n',k',e9,aG⟩:=hj.ans _ h9;simp only [D8,BN,BL,BO] at e9;obtain ⟨a5,rfl⟩:=e9;rw [a5] at h9;rw [D] at E;have ae:=ad;obtain ⟨old,ap,hol⟩:=ae;refine ⟨g,_,ad,D,a5,rfl,by simp,fun W' g2 g3=>?_⟩
  have al:Bd w0 W':=g2.down hj.low hg;refine ⟨al,fun X h=>?_,fun X h=>hj.l10 X (by simpa [QD] using h),fun X h=>hj.l11 X (by simpa [QD] using h),fun X h=>hj.l12 X (by simpa [QD] using h),fun X h=>?_,fun X h=>⟨g,o',n',k',E,h9,g3⟩,fun X h=>hj.l15 X (by simpa [QD] using h)⟩
  ·obtain ⟨av,au,ar,e,h1⟩:=hj.ans X (by simpa [QD] using h)
   exact ⟨av,au,ar,e,h1.other ap (by decide) (by decide) g2.same⟩
  ·rw [show QD τ 14 _ 13=τ 13 from rfl,E] at h
   obtain rfl:_=X:=by simpa using h
   exact ⟨g,rfl,hg,_,g3,rfl⟩
 apply RJ.new rfl
 ·intro σ W τ hj hc ha hn ⟨hd,hu⟩
  have ak:τ 12=some (σ 12):=ha ⟨12,.data⟩ (by simp) (by decide)
  have e12:=hj.l12 _ ak;refine ⟨Bb (Qfm x m s.time),W,by go_simp,⟨hj.low,fun X h=>hj.ans X (by simpa [QD] using h),fun X h=>hj.l10 X (by simpa [QD] using h),fun X h=>hj.l11 X (by simpa [QD] using h),fun X h=>hj.l12 X (by simpa [QD] using h),fun X h=>hj.new X (by simpa [QD] using h),fun X h=>hj.put X (by simpa [QD] using h),fun X h=>?_⟩⟩
  obtain rfl:_=X:=by simpa [QD] using h
  rfl
 intro σ w1 τ hτ hj _ _;have D:=hτ 13 (by simp)
 have a6:=hj.l15 _ (hτ 15 (by simp))
 obtain ⟨g,ko,kn,kc,E,h9,ab⟩:=hj.put _ (hτ 14 (by simp))
 obtain ⟨g',eg,hg,-⟩:=hj.new _ E;obtain ⟨_,_,_,e9,aG⟩:=hj.ans _ h9;simp only [D8,BW,BN,BL,BO,true_and,DH] at e9;obtain ⟨rfl,rfl,rfl⟩:=e9;obtain rfl:g=g':=by simpa using eg
 replace D:σ 13=.pointer (some ⟨g,0,none⟩):=by rw [E] at D;exact (Bu D).symm
 have F1:=C.out.go hj.low;have aS:=hid aG.held;have aE:=hid ab;have aK:=hid C.out.b.size;have af:=hid hj.low.size;have l0:=C.out.r0.lt;have l2:=C.out.r2.lt;simp only [D,a6];clear D a6 hτ hj E h9 aG ab eg C aY aO HX aZ L;generalize Qb1 x m s.time=y at *;generalize Qfm x m s.time=ye at *
 by_cases hz:ye=0
 ·subst hz
  rw [if_pos HE.out] at z
  go_wp2_with (refine F1.load 0 rfl Qa ?_)
  refine (aN.out _ F1.b).mono ?_;rintro e w2 ⟨I,p1,d1,p2,d2,p3,d3,p4,d4,p5,d5,p6,d6,p7,d7,mm,rfl,aI,a7,ac⟩;have F2:=F1.go I;have aQ:=hid (aS.out.below I);have aB:=rgo aE I;have ag:=hid aE.out.lt;have aM:=hid a7;have aX:=hid ac;have hb2s:=I.size;have L1:=hid F1.lts;clear I a7 ac aS aE aN
  go_upto_region 7 with (refine F2.store 0 rfl Qa (by simp) ?_;intro w3 F3 O3)
  have hB1:=af.out;have aR:=hid (aQ.out.on O3.below fun b hF=>O3.same b (by omega))
  have aW:=hid (show Row w3 g 78 [.string y.chain,Bb y.trust,.bool y.frozen,.slice ko kn kc] from (O3.same g (by omega)).trans aB.out)
  obtain ⟨rs,g1,g2,g3,g4⟩:=aM.out.on O3.below fun b T hF=>O3.same b (by omega)
  have aV:=hid (aX.out.on O3.below fun b T hF=>O3.same b (by omega))
  have hsz3:=O3.size;clear aQ aB aM aX O3 F2;obtain ⟨r,hr⟩:∃ r,rs[k]?=some r:=⟨_,Bk (by omega)⟩
  obtain ⟨kv,rfl,-⟩:=(g4 k r x hr ai.out).now;obtain ⟨gr,rfl,an,hgl,M,S⟩:=Qf.at g2 hr;have f0:=M 0 _ rfl;have z0:=S (k*4);have f1:=M 1 _ rfl;have z1:=S (k*4+1);have f2:=M 2 _ rfl;have z2:=S (k*4+2);have f3:=M 3 _ rfl;have z3:=S (k*4+3);simp only [BK] at f0;have k3:=F3.r0.k10.2.2.2.1;have q7:w3.cell? ⟨w.heap.size+1,7,none⟩=some (Bb (k:Int)):=(F3.r1.cell 7).trans (by rw [← aT.out];rfl)
  obtain ⟨a0,a1,a2,a3⟩:=aW.out.k4;have ao:=g3 gr rfl
  have aC:=Qf.put g2 (i:=k) (r:=[.string y.chain,Bb y.trust,.bool y.frozen,.slice ko kn kc]) (by omega) ⟨rfl,fun u hu=>by simp at hu;rcases hu with rfl | rfl | rfl | rfl <;> rfl⟩
  have A:=Q3 w3 gr (k*4) [.string y.chain,Bb y.trust,.bool y.frozen,.slice ko kn kc]
  have aP:=hid (show Qp N w0.heap.size (w3.setCells gr (k*4) [.string y.chain,Bb y.trust,.bool y.frozen,.slice ko kn kc]) (.agg #[.string s.name,Bb s.height,Bb s.time,.slice (some ⟨gr,0,none⟩) s.clients.length d1,.slice p2 n2 d2,.slice p3 n3 d3,.slice p4 n4 d4,.slice p5 n5 d5,.slice p6 n6 d6,.slice p7 n7 d7]) { s with clients:=s.clients.set k y } from
   Qf4 (base:=w1.heap.size) (m:=mm) (by simp [g1]) aC (by omega) (by omega) (fun i r u hr hu=>by
    by_cases hi:i=k
    ·subst hi
     rw [Dy (by omega)] at hr hu
     obtain rfl:=Bu hr;obtain rfl:=Bu hu;have a8:=aR.out.grown A (fun q e hF=>by obtain rfl:=Bu e;omega)
     exact ⟨fun b hF=>hF.2,fun aw G aF=>⟨_,rfl,a8.2 aw G fun b hF=>aF b ⟨.inr hF.1,a8.1 b hF⟩⟩⟩
    ·rw [BZ (Ne.symm hi)] at hr hu
     exact ((g4 i r u hr hu).grown A (fun q e hF=>hF.1 e.symm)).wide (fun b hF=>⟨hF.2.1.imp id (fun h=>by omega),by have:=A.size;omega⟩) (fun b hF=>hF.2))
    (aV.out.on (Qcf A) fun b T hF=>A.block b T fun e=>by obtain rfl:=Bu e;omega))
  have F4:=F3.past (JP (Bj gr) [.string y.chain,Bb y.trust,.bool y.frozen,.slice ko kn kc] (k*4) w3 (Bi _ _)) (by have:=aK.out;omega) (fun q hq=>Bt (L1.out q hq) an)
  obtain ⟨w4,aJ⟩:∃ w4,w3.setCells gr (k*4) [.string y.chain,Bb y.trust,.bool y.frozen,.slice ko kn kc]=w4:=⟨_,rfl⟩;rw [aJ] at aP F4;have ah:=hid aJ;have hgne:gr≠g:=by have:=ag.out;omega
  clear aJ aC A M S g1 g2 g3 g4 hr aR aV ao
  go_upto_region 8 with fail
  refine Qaj ah.out ?_;clear f0 z0 f1 z1 f2 z2 f3 z3 k3 q7 a0 a1 a2 a3 F3;generalize s.clients.length=n1 at *
  go_wp2_with (first | refine F4.load 0 rfl Qa ?_ | (refine F4.store 2 rfl Qa (by simp) ?_;intro w8 F8 O8))
  refine Qk results49 rfl F8.r2 Qa rfl ⟨F8.b,_,by rw [HE.out];rfl,?_⟩
  rw [z.out];exact (aP.out.only O8 (by omega) l2).lower aK.out
 ·have hzb:(ye != 0)=true:=by simpa using hz
  rw [if_neg (by rw [HE.out];exact hz)] at z
  go_wp2_with (refine F1.store 2 rfl Qa (by simp) ?_;intro w5 F5 O5)
  refine Qk results49 rfl F5.r2 Qa rfl ⟨F5.b,_,by rw [HE.out];rfl,?_⟩
  rw [z.out];exact Qg _ _ _
def Qkb (N B:Nat) (x:Option Value) (W:World) (b:Nat):Prop:=(b<N∨B≤b)∧b<W.heap.size∧x≠some (.pointer (some ⟨b,0,none⟩))
structure SJ (w:World) (gs N:Nat) (s0:List Value) (data:Bg) (S:St) (p:Pk) (e:Int) (τ:Nat→Option Value) (W:World):Prop where
 low:Below 0 w W
 same:∀ k,k<w.heap.size→k≠gs→W.heap[k]?=w.heap[k]?
 var:τ 13=none→Row W gs 28 s0
 sp:Sp gs 28 10 W
 byt:∀ X,τ 4=some X→τ 7=none→Bytes W W.heap.size X data
 new:∀ X,τ 12=some X→∃ g,X=.pointer (some ⟨g,0,none⟩)∧w.heap.size≤g∧Sp g 51 5 W
 ans:∀ X,τ 7=some X→∃ cs ps,X=.tuple #[.agg cs,.agg ps,Bb e]∧QM (Qkb N w.heap.size (τ 12) W) W (fun w2=>StV w2 w2.heap.size (.agg cs) S)∧QM (Qkb N w.heap.size (τ 12) W) W (fun w2=>PkV w2 w2.heap.size (.agg ps) p)
 l7:∀ X,τ 7=some X→∃ Y,τ 0=some Y
 l8:∀ X,τ 8=some X→τ 7=some X
 l9:∀ X,τ 9=some X→∃ b c,τ 7=some (.tuple #[X,b,c])
 l10:∀ X,τ 10=some X→∃ a c,τ 7=some (.tuple #[a,X,c])
 l11:∀ X,τ 11=some X→X=Bb e
 p13:∀ X,τ 13=some X→∃ cs b c,τ 7=some (.tuple #[.agg cs,b,c])∧Row W gs 28 cs.toList
 p14:∀ X,τ 14=some X→∃ ps a c g,τ 7=some (.tuple #[a,.agg ps,c])∧τ 12=some (.pointer (some ⟨g,0,none⟩))∧Row W g 51 ps.toList
 l15:∀ X,τ 15=some X→X=Bb e
section
variable {w:World} {gs N:Nat} {s0:List Value} {data:List (BitVec 8)} {S:St} {p:Pk} {e:Int} {τ:Nat→Option Value} {W W':World}
theorem SJ.start (hr:Row w gs 28 s0) (hl:s0.length=10):SJ w gs N s0 data S p e (fun _=>none) w.drew:=by
 refine ⟨(Bi _ _).drew,fun _ _ _=>rfl,fun _=>hr.below (Bi _ _).drew hr.lt,⟨_,hr.below (Bi _ _).drew hr.lt,hl⟩,?_,?_,?_,?_,?_,?_,?_,?_,?_,?_,?_⟩ <;> (intro X h;cases h)
theorem SJ.skip (h:SJ w gs N s0 data S p e τ W) {k:Nat} (hk:k≠4∧k<7) (v:Value):SJ w gs N s0 data S p e (QD τ k v) W:=by
 have q:∀ i,i=4∨7≤i→QD τ k v i=τ i:=fun i hi=>if_neg (by omega)
 refine ⟨h.low,h.same,?_,h.sp,?_,?_,?_,?_,?_,?_,?_,?_,?_,?_,?_⟩
 ·rw [q 13 (by omega)];exact h.var
 ·rw [q 4 (by omega),q 7 (by omega)];exact h.byt
 ·rw [q 12 (by omega)];exact h.new
 ·rw [q 7 (by omega),q 12 (by omega)];exact h.ans
 ·rw [q 7 (by omega)]
  intro X hX
  by_cases h0:0=k
  ·exact ⟨v,if_pos h0⟩
  ·rw [show QD τ k v 0=τ 0 from if_neg h0]
   exact h.l7 X hX
 ·rw [q 8 (by omega),q 7 (by omega)];exact h.l8
 ·rw [q 9 (by omega),q 7 (by omega)];exact h.l9
 ·rw [q 10 (by omega),q 7 (by omega)];exact h.l10
 ·rw [q 11 (by omega)];exact h.l11
 ·rw [q 13 (by omega),q 7 (by omega)];exact h.p13
 ·rw [q 14 (by omega),q 7 (by omega),q 12 (by omega)];exact h.p14
 ·rw [q 15 (by omega)];exact h.l15
theorem SJ.grow (h:SJ w gs N s0 data S p e τ W) (hb:Bd W W'):SJ w gs N s0 data S p e τ W':=by
 have hA:∀ x b,Qkb N w.heap.size x W b→Qkb N w.heap.size x W' b:=fun x b hF=>⟨hF.1,Bt hF.2.1 hb.size,hF.2.2⟩
 refine ⟨h.low.trans (hb.mono (BF _)),fun k hk hg=>(hb.block k (Bt hk h.low.size)).trans (h.same k hk hg),fun h1=>(h.var h1).below hb (h.var h1).lt,h.sp.low hb,fun X h1 h2=>((h.byt X h1 h2).below hb).mono hb.size,fun X h1=>?_,fun X h1=>?_,h.l7,h.l8,h.l9,h.l10,h.l11,fun X h1=>?_,fun X h1=>?_,h.l15⟩
 ·obtain ⟨g,h2,h3,h4⟩:=h.new X h1
  exact ⟨g,h2,h3,h4.low hb⟩
 ·obtain ⟨cs,ps,h2,h3,h4⟩:=h.ans X h1
  exact ⟨cs,ps,h2,(h3.below hb).wide (hA _) (fun b hF=>hF.2.1),(h4.below hb).wide (hA _) (fun b hF=>hF.2.1)⟩
 ·obtain ⟨cs,b,c,h2,h3⟩:=h.p13 X h1
  exact ⟨cs,b,c,h2,h3.below hb h3.lt⟩
 ·obtain ⟨ps,a,c,g,h2,h3,h4⟩:=h.p14 X h1
  exact ⟨ps,a,c,g,h2,h3,h4.below hb h4.lt⟩
theorem SJ.fresh (h:SJ w gs N s0 data S p e τ W) (hn:τ 0=none):τ 13=none:=by
 cases j:τ 13 with
 | none=>rfl
 | some X =>
  obtain ⟨cs,b,c,h7,-⟩:=h.p13 X j;obtain ⟨Y,hY⟩:=h.l7 _ h7;rw [hn] at hY;cases hY
theorem SJ.set4 (h:SJ w gs N s0 data S p e τ W) {v:Value} (hv:Bytes W W.heap.size v data):SJ w gs N s0 data S p e (QD τ 4 v) W :=
 ⟨h.low,h.same,h.var,h.sp,fun X h1 _=>by
  obtain rfl:v=X:=by simpa [QD] using h1
  exact hv,h.new,h.ans,h.l7,h.l8,h.l9,h.l10,h.l11,h.p13,h.p14,h.l15⟩
theorem SJ.set7 (h:SJ w gs N s0 data S p e τ W) (hn:τ 7=none) (h0:∃ Y,τ 0=some Y) (hb:Bd W W') (hNB:N≤w.heap.size) {cs ps:Array Value} (h1:Qp N W.heap.size W' (.agg cs) S) (h2:JY N W.heap.size W' (.agg ps) p):SJ w gs N s0 data S p e (QD τ 7 (.tuple #[.agg cs,.agg ps,Bb e])) W':=by
 have hF:∀ b,(b<N∨W.heap.size≤b)∧b<W'.heap.size→Qkb N w.heap.size (τ 12) W' b:=fun b hF=>⟨hF.1.imp id (Bh h.low.size),hF.2,fun j=>by
  obtain ⟨g,e1,e2,old,e3,-⟩:=h.new _ j;have:=e3.lt;simp only [Value.pointer.injEq,C4,Dx] at e1
  omega⟩
 have g:=h.grow hb;refine ⟨g.low,g.same,g.var,g.sp,fun X h3 h4=>?_,g.new,fun X h3=>?_,fun _ _=>h0,fun X h3=>?_,fun X h3=>?_,fun X h3=>?_,g.l11,fun X h3=>?_,fun X h3=>?_,g.l15⟩
 ·simp [QD] at h4
 ·obtain rfl:_=X:=by simpa [QD] using h3
  exact ⟨cs,ps,rfl,QM.wide h1 hF (fun b hF=>hF.2.1),QM.wide h2 hF (fun b hF=>hF.2.1)⟩
 ·have:=g.l8 X h3;rw [hn] at this;cases this
 ·obtain ⟨b,c,this⟩:=g.l9 X h3;rw [hn] at this;cases this
 ·obtain ⟨b,c,this⟩:=g.l10 X h3;rw [hn] at this;cases this
 ·obtain ⟨b,c,d,this,-⟩:=g.p13 X h3;rw [hn] at this;cases this
 ·obtain ⟨b,c,d,f,this,-⟩:=g.p14 X h3;rw [hn] at this;cases this
theorem SJ.set8 (h:SJ w gs N s0 data S p e τ W) {v:Value} (hv:τ 7=some v):SJ w gs N s0 data S p e (QD τ 8 v) W :=
 ⟨h.low,h.same,h.var,h.sp,h.byt,h.new,h.ans,h.l7,fun X h1=>by
  obtain rfl:v=X:=by simpa [QD] using h1
  exact hv,h.l9,h.l10,h.l11,h.p13,h.p14,h.l15⟩
theorem SJ.set9 (h:SJ w gs N s0 data S p e τ W) {v b c:Value} (hv:τ 7=some (.tuple #[v,b,c])):SJ w gs N s0 data S p e (QD τ 9 v) W :=
 ⟨h.low,h.same,h.var,h.sp,h.byt,h.new,h.ans,h.l7,h.l8,fun X h1=>by
  obtain rfl:v=X:=by simpa [QD] using h1
  exact ⟨_,_,hv⟩,h.l10,h.l11,h.p13,h.p14,h.l15⟩
theorem SJ.set10 (h:SJ w gs N s0 data S p e τ W) {v b c:Value} (hv:τ 7=some (.tuple #[b,v,c])):SJ w gs N s0 data S p e (QD τ 10 v) W :=
 ⟨h.low,h.same,h.var,h.sp,h.byt,h.new,h.ans,h.l7,h.l8,h.l9,fun X h1=>by
  obtain rfl:v=X:=by simpa [QD] using h1
  exact ⟨_,_,hv⟩,h.l11,h.p13,h.p14,h.l15⟩
theorem SJ.set11 (h:SJ w gs N s0 data S p e τ W):SJ w gs N s0 data S p e (QD τ 11 (Bb e)) W :=
 ⟨h.low,h.same,h.var,h.sp,h.byt,h.new,h.ans,h.l7,h.l8,h.l9,h.l10,fun X h1=>by
  obtain rfl:_=X:=by simpa [QD] using h1
  rfl,h.p13,h.p14,h.l15⟩
theorem SJ.set15 (h:SJ w gs N s0 data S p e τ W):SJ w gs N s0 data S p e (QD τ 15 (Bb e)) W :=
 ⟨h.low,h.same,h.var,h.sp,h.byt,h.new,h.ans,h.l7,h.l8,h.l9,h.l10,h.l11,h.p13,h.p14,fun X h1=>by
  obtain rfl:_=X:=by simpa [QD] using h1
  rfl⟩
theorem SJ.set12 (h:SJ w gs N s0 data S p e τ W) (hn:τ 12=none) {cs:List Value} (hl:cs.length=5):SJ w gs N s0 data S p e (QD τ 12 (.pointer (some ⟨W.heap.size,0,none⟩))) (W.alloc (.cells cs.toArray 51)):=by
 have hb:Bd W (W.alloc (.cells cs.toArray 51)):=(Bi _ _).alloc (by omega) _
 have g:=h.grow hb
 have hF:∀ b,Qkb N w.heap.size (τ 12) W b→Qkb N w.heap.size (some (.pointer (some ⟨W.heap.size,0,none⟩))) (W.alloc (.cells cs.toArray 51)) b:=fun b hF=>⟨hF.1,Bt hF.2.1 hb.size,fun e=>by
  simp only [Value.pointer.injEq,C4,Dx] at e;have:=hF.2.1
  omega⟩
 refine ⟨g.low,g.same,g.var,g.sp,g.byt,fun X h1=>?_,fun X h1=>?_,g.l7,g.l8,g.l9,g.l10,g.l11,g.p13,fun X h1=>?_,g.l15⟩
 ·obtain rfl:_=X:=by simpa [QD] using h1
  exact ⟨_,rfl,h.low.size,_,Row.new _ _ _,hl⟩
 ·obtain ⟨a,b,h2,h3,h4⟩:=h.ans X h1
  exact ⟨a,b,h2,(h3.below hb).wide hF (fun b hF=>hF.2.1),(h4.below hb).wide hF (fun b hF=>hF.2.1)⟩
 ·obtain ⟨_,_,_,_,_,h3,_⟩:=g.p14 X h1
  rw [hn] at h3;cases h3
theorem SJ.set13 (h:SJ w gs N s0 data S p e τ W) (hg:N≤gs∧gs<w.heap.size) {cs:Array Value} {b c:Value} (hv:τ 7=some (.tuple #[.agg cs,b,c])) (O:JJ gs W W') (hr:Row W' gs 28 cs.toList) (hl:10=cs.size) (v:Value):SJ w gs N s0 data S p e (QD τ 13 v) W':=by
 refine ⟨h.low.trans O.below,fun k hk j=>(O.same k j).trans (h.same k hk j),fun h1=>?_,⟨_,hr,by simpa using hl.symm⟩,fun X h1 h2=>?_,fun X h1=>?_,fun X h1=>?_,h.l7,h.l8,h.l9,h.l10,h.l11,fun X _=>⟨cs,b,c,hv,hr⟩,fun X h1=>?_,h.l15⟩
 ·simp [QD] at h1
 ·rw [show QD τ 13 v 7=τ 7 from rfl,hv] at h2;cases h2
 ·obtain ⟨g,h2,h3,h4⟩:=h.new X h1
  exact ⟨g,h2,h3,h4.only O (by omega)⟩
 ·obtain ⟨cs,ps,h2,h3,h4⟩:=h.ans X h1
  have hk:∀ b,Qkb N w.heap.size (τ 12) W b→W'.heap[b]?=W.heap[b]?:=fun b hF=>O.same b (by have:=hF.1;omega)
  exact ⟨cs,ps,h2,(h3.on O.below hk).wide (fun b hF=>⟨hF.1,by rw [O.size];exact hF.2.1,hF.2.2⟩) (fun b hF=>hF.2.1),(h4.on O.below hk).wide (fun b hF=>⟨hF.1,by rw [O.size];exact hF.2.1,hF.2.2⟩) (fun b hF=>hF.2.1)⟩
 ·obtain ⟨ps,a,c,g,h2,h3,h4⟩:=h.p14 X h1
  obtain ⟨g',e1,e2,-⟩:=h.new _ h3;simp only [Value.pointer.injEq,C4,Dx] at e1;exact ⟨ps,a,c,g,h2,h3,(O.same g (by omega)).trans h4⟩
theorem SJ.set14 (h:SJ w gs N s0 data S p e τ W) (hg:N≤gs∧gs<w.heap.size) {ps:Array Value} {a c:Value} {g:Nat} (hv:τ 7=some (.tuple #[a,.agg ps,c])) (j:τ 12=some (.pointer (some ⟨g,0,none⟩))) (m:w.heap.size≤g) (O:JJ g W W') (hr:Row W' g 51 ps.toList) (hl:5=ps.size) (v:Value):SJ w gs N s0 data S p e (QD τ 14 v) W':=by
 refine ⟨h.low.trans O.below,fun k hk q=>(O.same k (by omega)).trans (h.same k hk q),fun h1=>(O.same gs (by omega)).trans (h.var h1),h.sp.only O (by omega),fun X h1 h2=>?_,fun X h1=>?_,fun X h1=>?_,h.l7,h.l8,h.l9,h.l10,h.l11,fun X h1=>?_,fun X _=>⟨ps,a,c,g,hv,j,hr⟩,h.l15⟩
 ·rw [show QD τ 14 v 7=τ 7 from rfl,hv] at h2;cases h2
 ·rw [show QD τ 14 v 12=τ 12 from rfl,j] at h1
  obtain rfl:=Bu h1;exact ⟨g,rfl,m,_,hr,by simpa using hl.symm⟩
 ·obtain ⟨cs,ps,h2,h3,h4⟩:=h.ans X h1
  have hk:∀ b,Qkb N w.heap.size (τ 12) W b→W'.heap[b]?=W.heap[b]?:=fun b hF=>O.same b (fun e=>hF.2.2 (by rw [j,e]))
  exact ⟨cs,ps,h2,(h3.on O.below hk).wide (fun b hF=>⟨hF.1,by rw [O.size];exact hF.2.1,hF.2.2⟩) (fun b hF=>hF.2.1),(h4.on O.below hk).wide (fun b hF=>⟨hF.1,by rw [O.size];exact hF.2.1,hF.2.2⟩) (fun b hF=>hF.2.1)⟩
 ·obtain ⟨cs,b,c,h2,h3⟩:=h.p13 X h1
  exact ⟨cs,b,c,h2,(O.same gs (by omega)).trans h3⟩
end
theorem Qs7 {s:St} {i:Int} {d:Bg} {t:Int} (h:YB s i d t=0):∃ k:Nat,i=(k:Int)∧k≤9223372036854775807:=by
 unfold YB at h
 by_cases h0:Jb s i [3]=0
 ·have:=(JB h0).2.1
  have:=(QE (JB h0).1).2.2.1;exact ⟨i.toNat,by omega,by omega⟩
 ·rw [if_pos h0] at h;exact absurd h h0
theorem Qs6 (s:St) (m:Ms) (o:Nat→Option Addr) (c:Nat→Nat) (v:Value) (N:Nat) (w:World) (hv:StV w N v s) (hN:N≤w.heap.size) (I:s.fits) (aY:m.fits) (aB:Qi w) (aA:QL w) (hw:Qd s=0) :
  Calls prog 61 #[v,.agg (msC m o c).toArray] w fun e w'=>Bd w w'∧∃ v' pv,e=.returned (.tuple #[v',pv,Bb (QdG s m)])∧Qp N w.heap.size w' v' (Qoj s m)∧JY N w.heap.size w' pv (Qte s m):=by
 have Y:=aY.2.2.2.2.2.1;have aH:=Q9 hw I;have aS:=hid (fun W g (hr:Row W g 9 [.string m.tr.sender])=>Qo9 m.tr [m.tr.sender] g 1 W Y hr rfl (by omega))
 have aM:=hid (fun W=>Qg3 m.tr W Y)
 have aR:=hid (fun W (hb:Bd w W) dv (hd:Bytes W W.heap.size dv (QF m.tr))=>Qvo s v dv (QF m.tr) N W.heap.size W m.fin m.tmo (hv.below (hb.mono hN)) hd (Bh hN hb.size) (Bj _) I (by have:=Qg4 m.tr;omega) (aB.past hb))
 have M:=hid (show ∀ (h0:YB s m.fin (QF m.tr) m.tmo=0) W (_:Bd w W) sv,Qt PuR 3 W W.heap.size sv s.purses→Calls prog 92 #[sv,Bb m.fin,.agg #[.string m.tr.denom,.int .u64 (m.tr.amount:Int),.string m.tr.sender,.string m.tr.reader]] W fun e w'=>Bd W w'∧∃ v,e=.returned (.tuple #[v,Bb (QbF s.purses m.fin.toNat m.tr)])∧J3 W.heap.size w' v (Qa6 s.purses m.fin.toNat m.tr) from fun h0 W hb sv hl=>by
  obtain ⟨k,hk,ao⟩:=Qs7 h0;rw [hk,Eh]
  exact Qqe s.purses k m.tr sv W.heap.size W (aA.below hb) (Bj _) hl aH.2 aH.1 Y.2.1 ao)
 have HE:=hid (show QdG s m=if trN m.tr [m.tr.sender]≠0 then trN m.tr [m.tr.sender] else if YB s m.fin (QF m.tr) m.tmo≠0 then YB s m.fin (QF m.tr) m.tmo else QbF s.purses m.fin.toNat m.tr from rfl)
 have C:=hid (show Qoj s m=if QdG s m=0 then { Qdc s (Jx s m.fin (QF m.tr) m.tmo) with purses:=Qa6 s.purses m.fin.toNat m.tr } else St.none from rfl)
 have A:=hid (show Qte s m=if QdG s m=0 then Jx s m.fin (QF m.tr) m.tmo else Pk.none from rfl)
 have O:=hid (show Qh9 s m.fin (QF m.tr) m.tmo=if YB s m.fin (QF m.tr) m.tmo=0 then Qdc s (Jx s m.fin (QF m.tr) m.tmo) else St.none from rfl)
 have aE:=hid (show Qh8 s m.fin (QF m.tr) m.tmo=if YB s m.fin (QF m.tr) m.tmo=0 then Jx s m.fin (QF m.tr) m.tmo else Pk.none from rfl)
 obtain ⟨o1,c1,o2,c2,o3,c3,o4,c4,o5,c5,o6,c6,o7,c7,rfl,-⟩:=hv.open;clear hv I aY aB aA hw Y aH;generalize s.purses.length=n7,s.clients.length=n1,s.conns.length=n2,s.chans.length=n3,s.sent.length=n4,s.got.length=n5,s.acks.length=n6 at *
 go_in
 go_upto_region 1 with fail
 refine Qan ?_;intro w0 F0 hs;have aQ:=hid hs;clear hs
 go_upto_region 2 with (refine F0.loadMid 1 50 [.string m.tr.denom,.int .u64 (m.tr.amount:Int),.string m.tr.sender,.string m.tr.reader] rfl rfl rfl rfl rfl Qik ?_)
 refine F0.box ?_;intro w1 F1 aq am;clear aq am F0;obtain ⟨a0,a1,a2,a3⟩:=F1.r4.k4
 go_wp2_with fail
 refine Qb4 ?_;intro w2 aZ aV;have F2:=F1.go aV;refine (aS.out w2 _ aZ).mono ?_;rintro e w3 ⟨rfl,aW⟩;have F3:=F2.go aW;clear aV aW aZ a0 a1 a2 a3 F2 aS;generalize trN m.tr [m.tr.sender]=te at *
 by_cases hz:te=0
 ·subst hz
  replace HE:=hid (HE.out.trans (if_neg (by simp)))
  go_upto_region 5 with fail
  have HF:=hid F3;have ab:=F3.r0.lt;have aw:=F3.r4.lt;have au:w.heap.size+4≤w0.heap.size:=aQ.out;have z:=hid (show N≤w.heap.size∧w.heap.size<w3.heap.size from ⟨hN,ab⟩);have aL:=hid F3.b.size;have q:=hid (show ∀ W,(∀ k,k<w3.heap.size→k≠w.heap.size→W.heap[k]?=w3.heap[k]?)→Row W w0.heap.size 49 [.string m.tr.denom,.int .u64 (m.tr.amount:Int),.string m.tr.sender,.string m.tr.reader]∧Row W (w.heap.size+1) 53 (msC m o c) from fun W h=>⟨(h _ HF.out.r4.lt (by omega)).trans HF.out.r4,(h _ HF.out.r1.lt (by omega)).trans HF.out.r1⟩)
  have aD:=hid (fun (W:World) (h1:Below 0 w3 W) (h2:∀ k,k<w3.heap.size→k≠w.heap.size→W.heap[k]?=w3.heap[k]?)=>show Bd w W from HF.out.b.trans ⟨h1.os,h1.tape,h1.output,h1.size,fun k hk=>h2 k (by omega) (by omega)⟩)
  clear F1 F3;apply Qba (J:=SJ w3 w.heap.size N [.string s.name,Bb s.height,Bb s.time,.slice o1 n1 c1,.slice o2 n2 c2,.slice o3 n3 c3,.slice o4 n4 c4,.slice o5 n5 c5,.slice o6 n6 c6,.slice o7 n7 c7] (QF m.tr) (Qh9 s m.fin (QF m.tr) m.tmo) (Qh8 s m.fin (QF m.tr) m.tmo) (YB s m.fin (QF m.tr) m.tmo)) (by kernel_rfl) (fun τ W hj=>And.intro (q.out W hj.same).1.k4 (And.intro (show W.cell? ⟨w.heap.size+1,30,none⟩=some (Bb m.fin) from (q.out W hj.same).2.cell 30) (show W.cell? ⟨w.heap.size+1,54,none⟩=some (Bb m.tmo) from (q.out W hj.same).2.cell 54))) (SJ.start HF.out.r0 rfl) (by kernel_rfl)
  ·intro σ;simp [Ql];exact rfl
  apply RJ.valJ (fun τ W h=>h.skip (by decide) _) rfl;· intro σ W τ hj hc hn;exact Qju rfl rfl (hj.var (hj.fresh hn)) Qa
  iterate 3 (apply RJ.val (fun τ W h=>h.skip (by decide) _) rfl;· intro σ W hc ⟨hd,hu⟩;simp at hd;go_simp;exact rfl)
  apply RJ.call (fun _=>True) rfl
  ·intro σ W τ hj hc ha hn ⟨hd,hu⟩
   simp at hd hu;refine ⟨_,_,by go_simp <;> first | exact rfl | exact ⟨rfl,rfl⟩,(aM.out W).mono ?_⟩
   rintro e w' ⟨aI,bv,rfl,an⟩;exact ⟨_,rfl,(hj.grow aI).set4 an,trivial⟩
  iterate 2 (apply RJ.val (fun τ W h=>h.skip (by decide) _) rfl;· intro σ W hc ⟨hd,hu⟩;simp at hd;go_simp;exact rfl)
  apply RJ.call (fun _=>True) rfl
  ·intro σ W τ hj hc ha hn ⟨hd,hu⟩
   have h0:τ 0=some (σ 0):=ha ⟨0,.data⟩ (by simp) (by decide)
   have h4:τ 4=some (σ 4):=ha ⟨4,.data⟩ (by simp) (by decide)
   simp at hd hu;refine ⟨_,_,by go_simp <;> first | exact rfl | exact ⟨rfl,rfl⟩,(aR.out W (aD.out W hj.low hj.same) (σ 4) (hj.byt _ h4 hn)).mono ?_⟩
   rintro e w' ⟨aI,v',pv,rfl,hh,hp⟩;obtain ⟨a1,b1,d1,a2,b2,d2,a3,b3,d3,a4,b4,d4,a5,b5,d5,a6,b6,d6,a7,b7,d7,rfl⟩:=hh.open;obtain ⟨od,nd,cd,rfl⟩:=hp.open;exact ⟨_,rfl,hj.set7 hn ⟨_,h0⟩ aI (Nat.le_of_lt (Nat.lt_of_le_of_lt z.out.1 z.out.2)) hh hp,trivial⟩
  apply RJ.new rfl
  ·intro σ W τ hj hc ha hn ⟨hd,hu⟩
   have h7:τ 7=some (σ 7):=ha ⟨7,.data⟩ (by simp) (by decide)
   exact ⟨σ 7,W,by go_simp,hj.set8 h7⟩
  apply RJ.new rfl
  ·intro σ W τ hj hc ha hn ⟨hd,hu⟩
   have h8:τ 8=some (σ 8):=ha ⟨8,.data⟩ (by simp) (by decide)
   have h7:=hj.l8 _ h8;obtain ⟨cs,ps,e8,-,-⟩:=hj.ans _ h7;rw [e8] at h7;exact ⟨.agg cs,W,by go_simp,hj.set9 h7⟩
  apply RJ.new rfl
  ·intro σ W τ hj hc ha hn ⟨hd,hu⟩
   have h8:τ 8=some (σ 8):=ha ⟨8,.data⟩ (by simp) (by decide)
   have h7:=hj.l8 _ h8;obtain ⟨cs,ps,e8,-,-⟩:=hj.ans _ h7;rw [e8] at h7;exact ⟨.agg ps,W,by go_simp,hj.set10 h7⟩
  apply RJ.new rfl
  ·intro σ W τ hj hc ha hn ⟨hd,hu⟩
   have h8:τ 8=some (σ 8):=ha ⟨8,.data⟩ (by simp) (by decide)
   have h7:=hj.l8 _ h8;obtain ⟨cs,ps,e8,-,-⟩:=hj.ans _ h7;exact ⟨Bb (YB s m.fin (QF m.tr) m.tmo),W,by go_simp,hj.set11⟩
  apply RJ.new rfl
  ·intro σ W τ hj hc ha hn ⟨hd,hu⟩
   exact ⟨_,_,by go_simp,hj.set12 hn (cs:=[Bb 0,Bb 0,Bb 0,Bc,Bb 0]) rfl⟩
  apply RJ.store rfl rfl Qa
  ·intro σ W τ hj hc ha hn ⟨hd,hu⟩
   have h9:τ 9=some (σ 9):=ha ⟨9,.data⟩ (by simp) (by decide)
   obtain ⟨b',c',h7⟩:=hj.l9 _ h9;obtain ⟨cs,ps,e7,hS,-⟩:=hj.ans _ h7;simp only [D8,BN,BL,BO] at e7;obtain ⟨e9,rfl,rfl⟩:=e7;rw [e9] at h7;obtain ⟨q1,r1,q2,r2,q3,r3,q4,r4,q5,r5,q6,r6,q7,r7,ec,-⟩:=hS.now.open;obtain rfl:=Dz ec;exact ⟨_,_,hj.sp,rfl,e9,rfl,by simp,fun W' g2 g3=>hj.set13 z.out h7 g2 g3 rfl _⟩
  apply RJ.store rfl rfl Qh
  ·intro σ W τ hj hc ha hn ⟨hd,hu⟩
   have ai:τ 10=some (σ 10):=ha ⟨10,.data⟩ (by simp) (by decide)
   have E:τ 12=some (σ 12):=ha ⟨12,.data⟩ (by simp) (by decide)
   obtain ⟨b',c',h7⟩:=hj.l10 _ ai;obtain ⟨cs,ps,e7,-,hP⟩:=hj.ans _ h7;simp only [D8,BN,BL,BO] at e7;obtain ⟨rfl,aT,rfl⟩:=e7;rw [aT] at h7;obtain ⟨q1,r1,ec,-⟩:=hP.now.open;obtain rfl:=Dz ec;obtain ⟨g,D,hg,ar⟩:=hj.new _ E;rw [D] at E;exact ⟨_,_,ar,D,aT,rfl,by simp,fun W' g2 g3=>hj.set14 z.out h7 E hg g2 g3 rfl _⟩
  apply RJ.new rfl
  ·intro σ W τ hj hc ha hn ⟨hd,hu⟩
   have aj:τ 11=some (σ 11):=ha ⟨11,.data⟩ (by simp) (by decide)
   have e11:=hj.l11 _ aj;exact ⟨Bb (YB s m.fin (QF m.tr) m.tmo),W,by go_simp,hj.set15⟩
  intro σ w4 τ hτ hj _ _;have D:=hτ 12 (by simp)
  have aU:=hj.l15 _ (hτ 15 (by simp))
  obtain ⟨ps,x1,x2,g,h7,E,a8⟩:=hj.p14 _ (hτ 14 (by simp))
  obtain ⟨cs,x3,x4,aG,a9⟩:=hj.p13 _ (hτ 13 (by simp))
  obtain ⟨g',eg,hg,-⟩:=hj.new _ E;obtain rfl:g=g':=by simpa using eg
  obtain ⟨ah,ps',e7,hS,hP⟩:=hj.ans _ h7;rw [h7] at aG;simp only [C4,D8,BN,BL,BO,BW] at e7 aG;obtain ⟨rfl,rfl,rfl⟩:=e7;obtain ⟨ec,-,-⟩:=aG;obtain rfl:=Dz ec;replace D:σ 12=.pointer (some ⟨g,0,none⟩):=by rw [E] at D;exact (Bu D).symm
  have T:=hid (show Qp N w3.heap.size w4 (.agg ah) _ from hS.wide (fun b hF=>⟨hF.1,hF.2.1⟩) (fun b hF=>hF.2))
  have aF:=hid (show JY N w3.heap.size w4 (.agg ps) _ from hP.wide (fun b hF=>⟨hF.1,hF.2.1⟩) (fun b hF=>hF.2))
  generalize al:Qh9 s m.fin (QF m.tr) m.tmo=S at *;generalize ak:Qh8 s m.fin (QF m.tr) m.tmo=P at *;obtain ⟨q1,r1,q2,r2,q3,r3,q4,r4,q5,r5,q6,r6,q7,r7,ec,aX⟩:=T.out.now.open;obtain rfl:=Dz ec;obtain ⟨qd,rd,ec,-⟩:=(QM.now aF.out).open;obtain rfl:=Dz ec
  have F4:Fr w [(w.heap.size,28,[.string S.name,Bb S.height,Bb S.time,.slice q1 S.clients.length r1,.slice q2 S.conns.length r2,.slice q3 S.chans.length r3,.slice q4 S.sent.length r4,.slice q5 S.got.length r5,.slice q6 S.acks.length r6,.slice q7 S.purses.length r7]),(w.heap.size+1,53,msC m o c),(w.heap.size+1+1,28,[.string ⟨#[]⟩,Bb 0,Bb 0,Bc,Bc,Bc,Bc,Bc,Bc,Bc]),(w.heap.size+1+1+1,51,[Bb 0,Bb 0,Bb 0,Bc,Bb 0]),(w0.heap.size,49,[.string m.tr.denom,.int .u64 (m.tr.amount:Int),.string m.tr.sender,.string m.tr.reader]),(g,51,[Bb P.src,Bb P.dst,Bb P.seq,.slice qd P.data.length rd,Bb P.tmo])] w4:=by
   refine ⟨aD.out w4 hj.low hj.same,fun r hr=>?_,fun r hr=>?_,?_,Bj _⟩
   ·simp only [Bo,BH,BI] at hr
    rcases hr with rfl | rfl | rfl | rfl | rfl | rfl
    ·exact a9
    ·exact (q.out w4 hj.same).2
    ·exact (hj.same _ HF.out.r2.lt (by omega)).trans HF.out.r2
    ·exact (hj.same _ HF.out.r3.lt (by omega)).trans HF.out.r3
    ·exact (q.out w4 hj.same).1
    ·exact a8
   ·simp only [Bo,BH,BI] at hr
    rcases hr with rfl | rfl | rfl | rfl | rfl | rfl <;> (simp only;omega)
   ·simp;omega
  have av:=hj.low.size;have HL:=hid (show w.heap.size+1+1+1<w3.heap.size by omega)
  simp only [D,aU];clear al ak D aU hτ hj h7 E a8 a9 eg hg hS hP HF q aD aM aR aX aQ ab aw au;generalize YB s m.fin (QF m.tr) m.tmo=se at *
  by_cases hz:se=0
  ·subst hz
   replace HE:=hid (HE.out.trans (if_neg (by simp)))
   replace O:=hid (O.out.trans (if_pos rfl));replace aE:=hid (aE.out.trans (if_pos rfl));replace M:=hid (M.out rfl);rw [← O.out] at C;rw [← aE.out] at A;have ag:=hid (show S.purses=s.purses by rw [O.out];rfl)
   have aO:=hid (show Qt PuR 3 w4 w4.heap.size (.slice q7 S.purses.length r7) s.purses by
    obtain ⟨y1,y2,y3,y4,y5,y6,y7,e,ap⟩:=T.out.now;simp only [BW,BN,BL,BO,true_and] at e;obtain ⟨-,-,-,-,-,-,rfl⟩:=e;rw [← ag.out]
    exact ap.purses)
   have k9:=F4.r0.k10.2.2.2.2.2.2.2.2.2;have ax:w4.cell? ⟨w.heap.size+1,30,none⟩=some (Bb m.fin):=F4.r1.cell 30
   go_wp2_with (refine F4.load 4 rfl Qik ?_)
   refine (M.out _ F4.b _ aO.out).mono ?_;rintro e w5 ⟨aJ,uv,rfl,hu⟩;have F5:=F4.go aJ;have HU:=hid hu;have aC:=hid aJ;obtain ⟨ou,cu,rfl,-⟩:=hu.shape;clear aJ hu k9 ax F4 M aO;generalize QbF s.purses m.fin.toNat m.tr=le at *;generalize Qa6 s.purses m.fin.toNat m.tr=L at *;have aN:=hid (T.out.purses aC.out HU.out av);have aP:=hid (aF.out.below aC.out);generalize L.length=nu at *;clear HU T aF aC;have k9:=F5.r0.k10.2.2.2.2.2.2.2.2.2;have z9:=F5.r0.frozen 9
   go_upto_region 9 with fail
   refine F5.cell 0 rfl ?_;intro w6 F6 O6;have ac:=hid (aN.out.only O6 z.out.1 z.out.2);have ae:=hid (aP.out.only O6 z.out.1 z.out.2);clear k9 z9 O6 F5 aN aP
   by_cases hz:le=0
   ·subst hz
    rw [if_pos HE.out] at C A
    go_upto_region 11 with fail
    have HF:=hid F6;clear F6;apply Qba (J:=J2 w6 (w.heap.size+1+1) (w.heap.size+1+1+1) 2 3 28 51 [.string S.name,Bb S.height,Bb S.time,.slice q1 S.clients.length r1,.slice q2 S.conns.length r2,.slice q3 S.chans.length r3,.slice q4 S.sent.length r4,.slice q5 S.got.length r5,.slice q6 S.acks.length r6,.slice ou nu cu] [Bb P.src,Bb P.dst,Bb P.seq,.slice qd P.data.length rd,Bb P.tmo]) (by kernel_rfl) (fun τ W hj=>And.intro (hj.row HF.out.r0 (by omega) (by omega)).k10 (hj.row HF.out.r5 (QkZ HF.out.apart (i:=5) (j:=2) rfl rfl (by decide)) (QkZ HF.out.apart (i:=5) (j:=3) rfl rfl (by decide))).k5) (J2.start ⟨_,HF.out.r2,rfl⟩ ⟨_,HF.out.r3,rfl⟩) (by kernel_rfl)
    ·intro σ;simp [Ql];exact rfl
    iterate 2 (apply RJ.val (fun τ W h=>h.skip (by decide) (by decide) _) rfl;· intro σ W hc ⟨hd,hu⟩;simp at hd;go_simp;exact rfl)
    apply RJ.store rfl rfl Qa
    ·intro σ W τ hj hc ha hn ⟨hd,hu⟩
     have e0:σ 0=.agg #[.string S.name,Bb S.height,Bb S.time,.slice q1 S.clients.length r1,.slice q2 S.conns.length r2,.slice q3 S.chans.length r3,.slice q4 S.sent.length r4,.slice q5 S.got.length r5,.slice q6 S.acks.length r6,.slice ou nu cu]:=hd ⟨0,.data⟩ (by simp) (by decide)
     exact ⟨_,_,hj.sa,rfl,e0,rfl,by simp,fun W' g2 g3=>hj.puta (by decide) (by omega) g2 g3 _⟩
    apply RJ.store rfl rfl Qh
    ·intro σ W τ hj hc ha hn ⟨hd,hu⟩
     have e1:σ 1=.agg #[Bb P.src,Bb P.dst,Bb P.seq,.slice qd P.data.length rd,Bb P.tmo]:=hd ⟨1,.data⟩ (by simp) (by decide)
     exact ⟨_,_,hj.sb,rfl,e1,rfl,by simp,fun W' g2 g3=>hj.putb (by decide) (by omega) g2 g3 _⟩
    apply RJ.val (fun τ W h=>h.skip (by decide) (by decide) _) rfl;· intro σ W hc ⟨hd,hu⟩;simp at hd;go_simp;exact rfl
    intro σ W τ hτ hj _ hF;simp only [JE,Bv,By,Nat.reduceAdd] at hF;obtain ⟨-,-,-,-,e4,-⟩:=hF;have H2:=hid (hj.pa _ (hτ 2 (by simp)))
    have H3:=hid (hj.pb _ (hτ 3 (by simp)))
    have HB:=hid (HF.out.b.trans (hj.below (by omega) (by omega) HF.out.b.size))
    have hNG:=z.out;have hL:=HL.out;have ad:=hid (ac.out.on hj.low fun b aK hF=>hj.same b aK (by omega) (by omega))
    have af:=hid (ae.out.past hj.low fun b aK hF=>hj.same b aK (by omega) (by omega))
    simp only [e4];clear hτ hj e4;go_wp2;refine Qcq results61 rfl rfl H2.out H3.out Qa Qh rfl ⟨HB.out,_,_,by rw [HE.out];rfl,?_⟩
    rw [C.out,A.out];exact ⟨ad.out.lower aL.out,af.out.lower aL.out⟩
   ·have G:=hid (show ¬ QdG s m=0 by rw [HE.out];exact hz)
    have aa:(le != 0)=true:=by simpa using hz
    rw [if_neg G.out] at C A
    go_wp2_with (first | (refine F6.store 2 rfl Qa (by simp) ?_;intro w7 F7 O7) | (refine F7.store 3 rfl Qh (by simp) ?_;intro w8 F8 O8))
    refine Qcq results61 rfl rfl F8.r2 F8.r3 Qa Qh rfl ⟨F8.b,_,_,by rw [HE.out];rfl,?_⟩
    rw [C.out,A.out];exact ⟨Qg _ _ _,Jr _ _ _⟩
  ·replace HE:=hid (HE.out.trans (if_pos hz))
   have G:=hid (show ¬ QdG s m=0 by rw [HE.out];exact hz)
   have aa:(se != 0)=true:=by simpa using hz
   rw [if_neg G.out] at C A
   go_wp2_with (first | (refine F4.store 2 rfl Qa (by simp) ?_;intro w7 F7 O7) | (refine F7.store 3 rfl Qh (by simp) ?_;intro w8 F8 O8))
   refine Qcq results61 rfl rfl F8.r2 F8.r3 Qa Qh rfl ⟨F8.b,_,_,by rw [HE.out];rfl,?_⟩
   rw [C.out,A.out];exact ⟨Qg _ _ _,Jr _ _ _⟩
 ·replace HE:=hid (HE.out.trans (if_pos hz))
  have G:=hid (show ¬ QdG s m=0 by rw [HE.out];exact hz)
  have aa:(te != 0)=true:=by simpa using hz
  rw [if_neg G.out] at C A
  go_wp2_with (first | (refine F3.store 2 rfl Qa (by simp) ?_;intro w5 F5 O5) | (refine F5.store 3 rfl Qh (by simp) ?_;intro w6 F6 O6))
  refine Qcq results61 rfl rfl F6.r2 F6.r3 Qa Qh rfl ⟨F6.b,_,_,by rw [HE.out];rfl,?_⟩
  rw [C.out,A.out];exact ⟨Qg _ _ _,Jr _ _ _⟩
theorem QlU (s:St) (m:Ms) (o:Nat→Option Addr) (c:Nat→Nat) (v:Value) (N:Nat) (w:World) (hv:StV w N v s) (hN:N≤w.heap.size) (A:s.fits) (C:m.tr.fits) (hw:Qd s=0) :
  Calls prog 65 #[v,.agg (msC m o c).toArray] w fun e w'=>Bd w w'∧∃ v',e=.returned (.tuple #[v',Bb (Qaz s m.tr)])∧Qp N w.heap.size w' v' (Qjz s m.tr):=by
 obtain ⟨o1,c1,o2,c2,o3,c3,o4,c4,o5,c5,o6,c6,o7,c7,rfl,hm⟩:=hv.open;have HM:=hid (fun W (hb:Bd w W)=>hm.below (hb.mono hN))
 have aH:=hid (fun W g (hr:Row W g 9 [.string m.tr.sender,.string m.tr.reader])=>Qo9 m.tr [m.tr.sender,m.tr.reader] g 2 W C hr rfl (by omega))
 have z:=Q9 hw A;have aD:=hid (fun W (hb:Bd w W)=>Qe2 s.purses m.tr.sender m.tr.reader m.tr.denom m.tr.amount _ N W (Bh hN hb.size) (HM.out W hb).purses z.2 z.1 C.2.1)
 have I:=hid (fun h=>Zq (a:=m.tr.sender) (b:=m.tr.reader) (d:=m.tr.denom) (n:=m.tr.amount) z.2 z.1 C.2.1 h)
 have HE:=hid (show Qaz s m.tr=if trN m.tr [m.tr.sender,m.tr.reader]≠0 then trN m.tr [m.tr.sender,m.tr.reader] else Qas s.purses m.tr.sender m.tr.reader m.tr.denom m.tr.amount from rfl)
 have q:=hid (show Qjz s m.tr=if Qaz s m.tr=0 then { s with purses:=J9 s.purses m.tr.sender m.tr.reader m.tr.denom m.tr.amount } else St.none from rfl)
 have j:=hid (And.intro (QE hw) A);have hsp:0≤s.purses.length:=BF _;clear hv hm A C hw z
 go_in
 go_upto_region 1 with fail
 refine JR ?_;intro w0 F0 hs;clear hs
 go_upto_region 2 with (refine F0.loadMid 1 50 [.string m.tr.denom,.int .u64 (m.tr.amount:Int),.string m.tr.sender,.string m.tr.reader] rfl rfl rfl rfl rfl Qik ?_)
 refine F0.box ?_;intro w1 F1 aK aI;clear aK aI F0;obtain ⟨a0,a1,a2,a3⟩:=F1.r3.k4
 go_wp2_with fail
 refine Qb4 ?_;intro w2 aA M;have F2:=F1.go M;refine (aH.out w2 _ aA).mono ?_;rintro e w3 ⟨rfl,O⟩;have F3:=F2.go O;clear M O aA a0 a1 a2 a3 F1 F2;generalize trN m.tr [m.tr.sender,m.tr.reader]=te at *
 by_cases hz:te=0
 ·subst hz
  rw [if_neg (by simp)] at HE
  have k9:=F3.r0.k10.2.2.2.2.2.2.2.2.2;obtain ⟨a0,a1,a2,a3⟩:=F3.r3.k4
  go_wp2_with fail
  refine (aD.out _ F3.b).mono ?_;rintro e w4 ⟨S,pv,rfl,G⟩;have F4:=F3.go S;have aF:=hid G;have aL:w.heap.size<w3.heap.size:=by have:=F3.r0.lt;omega
  obtain ⟨op,cp,rfl,-⟩:=G.shape;clear S G k9 a0 a1 a2 a3 F3;generalize Qas s.purses m.tr.sender m.tr.reader m.tr.denom m.tr.amount=me at *
  by_cases hz:me=0
  ·subst hz
   have Y:=(I.out rfl).len;have aG:=hid (I.out rfl).right;generalize J9 s.purses m.tr.sender m.tr.reader m.tr.denom m.tr.amount=L at *;rw [if_pos HE.out] at q;have k9:=F4.r0.k10.2.2.2.2.2.2.2.2.2;have z9:=F4.r0.frozen 9
   go_upto_region 9 with fail
   refine F4.cell 0 rfl ?_;intro w5 F5 O5;have aE:=hid ((aF.out.only O5 aL).now);have aB:=hid F5.b
   have aC:=hid (QrC { s with purses:=L } o1 o2 o3 o4 o5 o6 op c1 c2 c3 c4 c5 c6 cp N w5.heap.size w5 (Qct (HM.out w5 F5.b) (Bh hN F5.b.size) aE.out) (Qol (HM.out w5 F5.b)) (Bh hN F5.b.size) (Bj _) (Qdb j.out.2 aG.out Y) ⟨j.out.1.1,j.out.1.2.1,j.out.1.2.2.1,j.out.1.2.2.2.1,j.out.1.2.2.2.2.1,j.out.1.2.2.2.2.2.1,by show L.length≤100;omega,j.out.1.2.2.2.2.2.2.2⟩)
   clear k9 z9 O5 F4 Y;generalize L.length=LL at *
   go_wp2_with (refine F5.load 0 rfl Qa ?_)
   refine aC.out.mono ?_;rintro e w6 ⟨T,p1,d1,p2,d2,p3,d3,p4,d4,p5,d5,p6,d6,p7,d7,rfl,D⟩;have F6:=F5.go T;have HH:=hid (D.toOwn.holds);have aJ:=F5.r2.lt;clear T D F5
   go_wp2_with (refine F6.store 2 rfl Qa (by simp) ?_;intro w7 F7 O7)
   refine Qk results65 rfl F7.r2 Qa rfl ⟨F7.b,_,by rw [HE.out];rfl,?_⟩
   rw [q.out];exact (HH.out.only O7 (by omega) aJ).lower aB.out.size
  ·have E:=hid (show ¬ Qaz s m.tr=0 by rw [HE.out];exact hz)
   have aM:(me != 0)=true:=by simpa using hz
   rw [if_neg E.out] at q
   go_wp2_with (refine F4.store 2 rfl Qa (by simp) ?_;intro w7 F7 O7)
   refine Qk results65 rfl F7.r2 Qa rfl ⟨F7.b,_,by rw [HE.out];rfl,?_⟩
   rw [q.out];exact Qg _ _ _
 ·rw [if_pos hz] at HE
  have E:=hid (show ¬ Qaz s m.tr=0 by rw [HE.out];exact hz)
  have aM:(te != 0)=true:=by simpa using hz
  rw [if_neg E.out] at q
  go_wp2_with (refine F3.store 2 rfl Qa (by simp) ?_;intro w7 F7 O7)
  refine Qk results65 rfl F7.r2 Qa rfl ⟨F7.b,_,by rw [HE.out];rfl,?_⟩
  rw [q.out];exact Qg _ _ _
theorem QuF (s:St) (v C:Value) (N:Nat) (w:World) (c o q z:Int) (h:Sh) (hv:StV w N v s) (hh:ShV w N C h) (hN:N≤w.heap.size) (j:s.fits) (M:h.fits) (A:Qi w) (m:QL w) (hz:Qnc s c o q h z) :
  Calls prog 51 #[v,Bb c,Bb o,Bb q,C] w fun e w'=>Bd w w'∧∃ v',e=.returned (.tuple #[v',Bb (Qlp s (Qcu s c o q z)),Bb (Qcu s c o q z)])∧Qp N w.heap.size w' v' (Qtr s c o q z):=by
 have aA:=hid (fun wx (hx:Bd w wx)=>Qj2 s v N wx c (hv.below (hx.mono hN)) (Bh hN hx.size) j)
 have S:=hid (fun (h:J0 s c=0) wx (hx:Bd w wx)=>Qi7 s v N wx ⟨2,c,o,q⟩ (hv.below (hx.mono hN)) (Bh hN hx.size) j (QE (QbY h)))
 have T:=hid (fun (hs:J0 s c=0) (h1:Qs 0 o=true) (h2:Qs 0 q=true) wx (hx:Bd w wx)=>QoY s v C N wx c q z ⟨1,o,c,-1⟩ h (hv.below (hx.mono hN)) (hh.below (hx.mono hN)) (Bh hN hx.size) j M (A.past hx) (m.below hx) (Qaq (Qbx hs)) ((Q6 _ _).1 h2) (Qau (by omega) ((Q6 _ _).1 h1) (by have:=Qaq (Qbx hs);have:=(QE (QbY hs)).1;omega) (by omega)) hz)
 have HI:=hid (show Qcu s c o q z=if (J0 s c != 0)=true then J0 s c else if (!Qs 0 o)=true then 3 else if (!Qs 0 q)=true then 3 else if (z != 0)=true then z else QbS s by unfold Qcu;grind)
 have HS:=hid (show Qtr s c o q z=Qna s (Qcu s c o q z) ⟨2,c,o,q⟩ from rfl);obtain ⟨o1,c1,o2,c2,o3,c3,o4,c4,o5,c5,o6,c6,o7,c7,rfl,hm⟩:=hv.open;obtain ⟨q1,e1,q2,e2,q3,e3,r1,s1,r2,s2,r3,s3,r4,s4,r5,s5,r6,s6,rfl,-⟩:=hh.open;clear hv hm hh j M A m hz
 go_in
 go_upto_region 1 with fail
 refine JR ?_;intro w0 F0 hs
 go_wp2_with (refine F0.load 0 rfl Qa ?_)
 refine (aA.out _ F0.b).mono ?_;rintro e w1 ⟨rfl,G⟩;have F:=F0.go G;clear G F0 hs
 cases e0:(J0 s c != 0)
 cases e1:Qs 0 o
 rotate_left
 cases e2:Qs 0 q
 rotate_left
 ·have h0:J0 s c=0:=by simpa using e0
  have HA:=hid (S.out h0);have HM:=hid (T.out h0 e1 e2);replace HI:=hid (HI.out.trans (by simp only [e0,e1,e2];rfl))
  clear h0
  go_upto_region 7 with (go_at_call 14;refine (JC _ _ _).mono ?_;rintro e w' ⟨rfl,E⟩;obtain rfl:=E.symm)
  refine F.box ?_;intro w2 F2 aD aC;clear aD aC F
  go_wp2_with (first | refine F2.load 0 rfl Qa ?_ | refine F2.load 1 rfl QN ?_ | refine F2.load 3 rfl Z6 ?_)
  refine (HM.out _ F2.b).mono ?_;rintro e w3 ⟨rfl,I⟩;have F:=F2.go I;clear I F2
  cases e3:(z != 0)
  ·replace HI:=hid (show Qcu s c o q z=QbS s by rw [HI.out];simp [e3])
   go_wp2_with (refine F.load 0 rfl Qa ?_)
   refine (HA.out _ F.b).mono ?_;rintro e w4 ⟨L,v',rfl,D⟩;have F4:=F.go L;have hg:=F.r2.lt;obtain ⟨a0,a1,a2,a3,a4,a5,a6,a7,a8,a9,rfl,O⟩:=D.now.ten;have aB:=hid D;have Y:=hid O;have hz:=F.sz;clear L D O F
   go_wp2_with (refine F4.store 2 rfl Qa Y.out ?_;intro w5 F5 O5)
   refine Ya results51 rfl F5.r2 Qa rfl ⟨F5.b,_,by rw [HI.out];rfl,?_⟩
   rw [HS.out,HI.out];exact (aB.out.only O5 (by omega) hg).lower hz
  ·have hn:Qcu s c o q z≠0:=by rw [HI.out];grind
   have HN:=hid (show Qlp s (Qcu s c o q z)=0 from if_neg hn);replace HS:=hid (HS.out.trans (if_neg hn));replace HI:=hid (show Qcu s c o q z=z by rw [HI.out];simp [e3])
   clear hn
   go_wp2_with (refine F.store 2 rfl Qa (by simp) ?_;intro wz FZ OZ)
   refine Ya results51 rfl FZ.r2 Qa rfl ⟨FZ.b,_,by rw [HN.out,HI.out];rfl,?_⟩
   rw [HS.out];exact Qg _ _ _
 all_goals
  have hn:Qcu s c o q z≠0:=by rw [HI.out];grind
  have HN:=hid (show Qlp s (Qcu s c o q z)=0 from if_neg hn);replace HS:=hid (HS.out.trans (if_neg hn));replace HI:=hid (HI.out.trans (by simp only [*];rfl))
  clear hn
  go_wp2_with (first | (go_at_call 14;refine (JC _ _ _).mono ?_;rintro e w' ⟨rfl,E⟩;obtain rfl:=E.symm) | refine F.store 2 rfl Qa (by simp) ?_;intro wz FZ OZ)
  refine Ya results51 rfl FZ.r2 Qa rfl ⟨FZ.b,_,by rw [HN.out,HI.out];rfl,?_⟩
  rw [HS.out];exact Qg _ _ _
theorem QtO (s:St) (v E:Value) (N:Nat) (w:World) (i q z:Int) (h:Sh) (hv:StV w N v s) (hh:ShV w N E h) (hN:N≤w.heap.size) (j:s.fits) (O:h.fits) (C:Qi w) (A:QL w) (hz:Qkh s i q h z) :
  Calls prog 52 #[v,Bb i,Bb q,E] w fun e w'=>Bd w w'∧∃ v',e=.returned (.tuple #[v',Bb (QiA s i q z)])∧Qp N w.heap.size w' v' (Qrf s i q z):=by
 have T:=hid (fun wx (hx:Bd w wx)=>QoR s v N wx i 1 (hv.below (hx.mono hN)) (Bh hN hx.size) j)
 have aA:=hid (fun (k:Nat) (x:Cn) (D:i=(k:Int)) (hx:s.conns[k]?=some x) (hs:Qcc s i 1=0) (h2:Qs 0 q=true) wx (m:Bd w wx) =>
  QhQ s v E N wx i 2 z ⟨x.state,x.client,x.oclient,q⟩ h (hv.below (m.mono hN)) (hh.below (m.mono hN)) (Bh hN m.size) j O (C.past m) (A.below m) (Y2 hs).1 (Y2 hs).2.1 (by have:=Qaq (Y2 hs).2.2.2;rw [D,Yn hx] at this;exact this) ((Q6 _ _).1 h2) (Zv ((QB (Y2 hs).1).conns x (Bn hx))).2.2.1 (by omega) (by have:=hz;unfold Qkh at this;rw [D,Yn hx] at this;rw [D];exact this))
 have HI:=hid (show QiA s i q z=if (Qcc s i 1 != 0)=true then Qcc s i 1 else if (!Qs 0 q)=true then 3 else z by simp [QiA])
 have HS:=hid (show Qrf s i q z=Qmw s (QiA s i q z) i ⟨3,(Yd s i).client,(Yd s i).oclient,q⟩ from rfl);obtain ⟨o1,c1,o2,c2,o3,c3,o4,c4,o5,c5,o6,c6,o7,c7,rfl,hm⟩:=hv.open;obtain ⟨q1,e1,q2,e2,q3,e3,r1,s1,r2,s2,r3,s3,r4,s4,r5,s5,r6,s6,rfl,-⟩:=hh.open;have HM:=hid hm;clear hv hm hh j O C A hz
 go_in
 go_upto_region 1 with fail
 refine JR ?_;intro w0 F0 hs
 go_wp2_with (refine F0.load 0 rfl Qa ?_)
 refine (T.out _ F0.b).mono ?_;rintro e w1 ⟨rfl,L⟩;have F:=F0.go L;clear L F0 hs
 cases e0:(Qcc s i 1 != 0)
 cases e1:Qs 0 q
 rotate_left
 ·have e2:Qcc s i 1=0:=by simpa using e0
  obtain ⟨k,rfl⟩:∃ k:Nat,i=(k:Int):=⟨i.toNat,by have:=Y2 e2;omega⟩
  have hlt:=(Y2 e2).2.1.2;obtain ⟨x,hx⟩:∃ x,s.conns[k]?=some x:=⟨_,Bk (by omega)⟩
  have aB:=hid (aA.out k x rfl hx e2 e1);rw [Yn hx] at HS;replace HI:=hid (show QiA s (k:Int) q z=z by rw [HI.out];simp [e0,e1])
  obtain ⟨b,f,rfl,hb,x0,x1,x2,x3⟩:=(HM.out.below (F.b.mono hN)).conns.conn rfl hx;have k4:=F.r0.k10.2.2.2.2.1;clear e2 hx
  go_upto_region 7 with (go_at_call 14;refine (JC _ _ _).mono ?_;rintro e w' ⟨rfl,I⟩;obtain rfl:=I.symm)
  refine F.box ?_;intro w2 F2 aE aD;clear x0 x1 x2 x3 k4 aE aD F;have a3:=F2.r3.k4.2.2.2;have z3:=F2.r3.frozen 3
  go_upto_region 8 with fail
  refine F2.cell 3 rfl ?_;intro w3 F3 O3;clear a3 z3 O3 F2
  go_wp2_with (first | refine F3.load 0 rfl Qa ?_ | refine F3.load 1 rfl QN ?_ | refine F3.load 3 rfl Z6 ?_)
  refine (aB.out _ F3.b).mono ?_;rintro e w4 ⟨M,v',rfl,G⟩;have F4:=F3.go M;have hg:=F3.r2.lt;obtain ⟨a0,a1,a2,a3,a4,a5,a6,a7,a8,a9,rfl,S⟩:=G.now.ten;have aC:=hid G;have Y:=hid S;have aF:=F3.sz;clear M G S F3
  go_wp2_with (refine F4.store 2 rfl Qa Y.out ?_;intro w5 F5 O5)
  refine Qk results52 rfl F5.r2 Qa rfl ⟨F5.b,_,by rw [HI.out];rfl,?_⟩
  rw [HS.out,HI.out];exact (aC.out.only O5 (by omega) hg).lower aF
 all_goals
  replace HS:=hid (HS.out.trans (if_neg (by rw [HI.out];grind)))
  replace HI:=hid (HI.out.trans (by simp only [*];rfl))
  go_wp2_with (first | (go_at_call 14;refine (JC _ _ _).mono ?_;rintro e w' ⟨rfl,I⟩;obtain rfl:=I.symm) | refine F.store 2 rfl Qa (by simp) ?_;intro wz FZ OZ)
  refine Qk results52 rfl FZ.r2 Qa rfl ⟨FZ.b,_,by rw [HI.out];rfl,?_⟩
  rw [HS.out];exact Qg _ _ _
theorem QrA (s:St) (v D:Value) (N:Nat) (w:World) (i z:Int) (h:Sh) (hv:StV w N v s) (hh:ShV w N D h) (hN:N≤w.heap.size) (j:s.fits) (L:h.fits) (A:Qi w) (q:QL w) (hz:QgG s i h z) :
  Calls prog 53 #[v,Bb i,D] w fun e w'=>Bd w w'∧∃ v',e=.returned (.tuple #[v',Bb (QcX s i z)])∧Qp N w.heap.size w' v' (QlE s i z):=by
 have O:=hid (fun wx (hx:Bd w wx)=>QoR s v N wx i 2 (hv.below (hx.mono hN)) (Bh hN hx.size) j)
 have T:=hid (fun (k:Nat) (x:Cn) (C:i=(k:Int)) (hx:s.conns[k]?=some x) (hs:Qcc s i 2=0) (h2:decide (x.oconn<0)=false) wx (m:Bd w wx) =>
  have hr:=Zv ((QB (Y2 hs).1).conns x (Bn hx))
  QhQ s v D N wx i 3 z x h (hv.below (m.mono hN)) (hh.below (m.mono hN)) (Bh hN m.size) j L (A.past m) (q.below m) (Y2 hs).1 (Y2 hs).2.1 (by have:=Qaq (Y2 hs).2.2.2;rw [C,Yn hx] at this;exact this) (by simp at h2;omega) hr.2.2.1 (by omega) (by have:=hz;unfold QgG at this;rw [C,Yn hx] at this;rw [C];exact this))
 have HI:=hid (show QcX s i z=if (Qcc s i 2 != 0)=true then Qcc s i 2 else if decide ((Yd s i).oconn<0)=true then 8 else z by simp [QcX])
 have HS:=hid (show QlE s i z=Qmw s (QcX s i z) i ⟨3,(Yd s i).client,(Yd s i).oclient,(Yd s i).oconn⟩ from rfl);obtain ⟨o1,c1,o2,c2,o3,c3,o4,c4,o5,c5,o6,c6,o7,c7,rfl,hm⟩:=hv.open;obtain ⟨q1,e1,q2,e2,q3,e3,r1,s1,r2,s2,r3,s3,r4,s4,r5,s5,r6,s6,rfl,-⟩:=hh.open;have HM:=hid hm;clear hv hm hh j L A q hz
 go_in
 go_upto_region 1 with fail
 refine JR ?_;intro w0 F0 hs
 go_wp2_with (refine F0.load 0 rfl Qa ?_)
 refine (O.out _ F0.b).mono ?_;rintro e w1 ⟨rfl,G⟩;have F:=F0.go G;clear G F0 hs
 cases e0:(Qcc s i 2 != 0)
 ·have e2:Qcc s i 2=0:=by simpa using e0
  obtain ⟨k,rfl⟩:∃ k:Nat,i=(k:Int):=⟨i.toNat,by have:=Y2 e2;omega⟩
  have hlt:=(Y2 e2).2.1.2;obtain ⟨x,hx⟩:∃ x,s.conns[k]?=some x:=⟨_,Bk (by omega)⟩
  have Y:=hid (T.out k x rfl hx e2);rw [Yn hx] at HS HI;obtain ⟨b,f,rfl,hb,x0,x1,x2,x3⟩:=(HM.out.below (F.b.mono hN)).conns.conn rfl hx;have k4:=F.r0.k10.2.2.2.2.1;clear e2 hx
  go_upto_region 5 with fail
  refine F.box ?_;intro w3 F3 aC aB;clear x0 x1 x2 x3 k4 aC aB F;have a3:=F3.r3.k4.2.2.2
  cases e1:decide (x.oconn<0)
  ·replace HI:=hid (show QcX s (k:Int) z=z by rw [HI.out];simp [e0,e1])
   go_wp2_with (first | refine F3.load 0 rfl Qa ?_ | refine F3.load 1 rfl QN ?_ | refine F3.load 3 rfl Z6 ?_)
   refine (Y.out e1 _ F3.b).mono ?_;rintro e w4 ⟨I,v',rfl,E⟩;have F4:=F3.go I;have hg:=F3.r2.lt;obtain ⟨a0,a1,a2,a3,a4,a5,a6,a7,a8,a9,rfl,M⟩:=E.now.ten;have aA:=hid E;have S:=hid M;have aD:=F3.sz;clear I E M F3
   go_wp2_with (refine F4.store 2 rfl Qa S.out ?_;intro w5 F5 O5)
   refine Qk results53 rfl F5.r2 Qa rfl ⟨F5.b,_,by rw [HI.out];rfl,?_⟩
   rw [HS.out,HI.out];exact (aA.out.only O5 (by omega) hg).lower aD
  ·replace HI:=hid (show QcX s (k:Int) z=8 by rw [HI.out];simp [e0,e1])
   go_wp2_with (refine F3.store 2 rfl Qa (by simp) ?_;intro wz FZ OZ)
   refine Qk results53 rfl FZ.r2 Qa rfl ⟨FZ.b,_,by rw [HI.out];rfl,?_⟩
   rw [HS.out,HI.out];exact Qg _ _ _
 ·replace HI:=hid (HI.out.trans (if_pos e0))
  replace HS:=hid (HS.out.trans (if_neg (by rw [HI.out];simpa using e0)))
  go_wp2_with (refine F.store 2 rfl Qa (by simp) ?_;intro wz FZ OZ)
  refine Qk results53 rfl FZ.r2 Qa rfl ⟨FZ.b,_,by rw [HI.out];rfl,?_⟩
  rw [HS.out];exact Qg _ _ _
theorem Jp.putChans {N base:Nat} {w w':World} {s:St} {v1 v2 v3 v4 v5 v6 v7:Value} (h:Jp N base w s v1 v2 v3 v4 v5 v6 v7) {j:Value} {l:List Ch} (hg:w.grownBy w' v3.ownBlock) (hl:JA 86 Qr 7 w' base j l) (hn:∀ b,j.ownBlock=some b→v3.ownBlock=some b∨w.heap.size≤b) :
  Jp N base w' { s with chans:=l } v1 v2 j v4 v5 v6 v7:=by
 obtain ⟨F,h0,h1,h2,h3,h4,h5,h6,h7,k2,k3,k7⟩:=h
 have A:∀ i b,(i=1∨i=4∨i=5∨i=6)→F i b→b<w.heap.size:=fun i b hi hF=>by
  rcases hi with rfl | rfl | rfl | rfl
  ·exact h1.1 b hF
  ·exact h4.1 b hF
  ·exact h5.1 b hF
  ·exact h6.1 b hF
 refine ⟨fun i b=>(i=3∧j.ownBlock=some b)∨(i=2∧v2.ownBlock=some b)∨(i=7∧v7.ownBlock=some b)∨((i=1∨i=4∨i=5∨i=6)∧F i b),fun i b hF=>?_,?_⟩
 ·rcases hF with ⟨rfl,e⟩ | ⟨rfl,e⟩ | ⟨rfl,e⟩ | ⟨_,hF⟩
  ·exact .inr (hl.own b e).1
  ·exact h0 2 b (k2 b e).1
  ·exact h0 7 b (k7 b e).1
  ·exact h0 i b hF
 ·have H:∀ (i:Nat) (P:World→Prop),(i=1∨i=4∨i=5∨i=6)→QM (F i) w P→QM (fun b=>(i=3∧j.ownBlock=some b)∨(i=2∧v2.ownBlock=some b)∨(i=7∧v7.ownBlock=some b)∨((i=1∨i=4∨i=5∨i=6)∧F i b)) w' P:=fun i P hi hP=>by
   have q:=hP.grown hg (fun b e=>(k3 b e).2 i (by omega))
   exact q.wide (fun b hF=>.inr (.inr (.inr ⟨hi,hF⟩))) (fun b hF=>by
    rcases hF with ⟨rfl,_⟩ | ⟨rfl,_⟩ | ⟨rfl,_⟩ | ⟨_,hF⟩
    ·omega
    ·omega
    ·omega
    ·exact q.1 b hF)
  have n2:∀ b,v2.ownBlock=some b→some b≠v3.ownBlock:=fun b e e2=>(k2 b e).2 3 (by omega) (k3 b e2.symm).1
  have n7:∀ b,v7.ownBlock=some b→some b≠v3.ownBlock:=fun b e e2=>(k7 b e).2 3 (by omega) (k3 b e2.symm).1
  have z:∀ b,v2.ownBlock=some b→v7.ownBlock≠some b:=fun b e e2=>(k2 b e).2 7 (by omega) (k7 b e2).1
  refine ⟨H 1 _ (.inl rfl) h1,h2.keep fun b e=>hg.block b (h2.own b e).2 (n2 b e),hl,H 4 _ (.inr (.inl rfl)) h4,H 5 _ (.inr (.inr (.inl rfl))) h5,H 6 _ (.inr (.inr (.inr rfl))) h6,h7.keep fun b e=>hg.block b (h7.own b e).2 (n7 b e),fun b e=>⟨.inr (.inl ⟨rfl,e⟩),fun i hi hF=>?_⟩,fun b e=>⟨.inl ⟨rfl,e⟩,fun i hi hF=>?_⟩,fun b e=>⟨.inr (.inr (.inl ⟨rfl,e⟩)),fun i hi hF=>?_⟩⟩
  ·rcases hF with ⟨rfl,e'⟩ | ⟨rfl,e'⟩ | ⟨rfl,e'⟩ | ⟨m,hF⟩
   ·rcases hn b e' with e2 | hge
    ·exact n2 b e e2.symm
    ·have:=(h2.own b e).2;omega
   ·exact hi rfl
   ·exact z b e e'
   ·exact (k2 b e).2 i (by omega) hF
  ·rcases hF with ⟨rfl,_⟩ | ⟨rfl,e'⟩ | ⟨rfl,e'⟩ | ⟨m,hF⟩
   ·exact hi rfl
   ·rcases hn b e with e2 | hge
    ·exact n2 b e' e2.symm
    ·have:=(h2.own b e').2;omega
   ·rcases hn b e with e2 | hge
    ·exact n7 b e' e2.symm
    ·have:=(h7.own b e').2;omega
   ·rcases hn b e with e2 | hge
    ·exact (k3 b e2).2 i (by omega) hF
    ·have:=A i b m hF;omega
  ·rcases hF with ⟨rfl,e'⟩ | ⟨rfl,e'⟩ | ⟨rfl,e'⟩ | ⟨m,hF⟩
   ·rcases hn b e' with e2 | hge
    ·exact n7 b e e2.symm
    ·have:=(h7.own b e).2;omega
   ·exact z b e' e
   ·exact hi rfl
   ·exact (k7 b e).2 i (by omega) hF
theorem Qg5 (s:St) (v:Value) (N:Nat) (w:World) (o:Ch) (hv:StV w N v s) (hN:N≤w.heap.size) (z:s.fits) (j:few s) :
  Calls prog 84 #[v,.agg #[Bb o.state,.bool o.ordered,Bb o.conn,Bb o.ochan,Bb o.send,Bb o.recv,Bb o.ack]] w fun e w'=>Bd w w'∧∃ v',e=.returned (.tuple #[v',Bb (QcQ s (Y4 s)),Bb (Y4 s)])∧Qp N w.heap.size w' v' (QgS s (Y4 s) (⟨o.state,o.ordered,o.conn,o.ochan,1,1,1⟩:Ch)):=by
 have aB:=hid (fun wx (hx:Bd w wx)=>QlH s v N wx (hv.below (hx.mono hN)) (Bh hN hx.size) z j)
 have hlc:s.chans.length≤100:=j.2.2.1;obtain ⟨o1,c1,o2,c2,o3,c3,o4,c4,o5,c5,o6,c6,o7,c7,rfl,hm⟩:=hv.open;clear hv hm z j
 go_in
 go_upto_region 1 with fail
 refine JR ?_;intro w0 F hs;have k5:=F.r0.k10.2.2.2.2.2.1
 by_cases h8:8≤s.chans.length
 ·have e8:decide ((8:Int)≤(s.chans.length:Int))=true:=by simp;omega
  have HM:=hid (show Y4 s=5 from if_pos h8)
  go_wp2_with (refine F.store 2 rfl Qa (by simp) ?_;intro w1 F1 O1)
  refine Ya results84 rfl F1.r2 Qa rfl ⟨F1.b,_,by rw [HM.out];rfl,?_⟩
  rw [HM.out];exact Qg _ _ _
 ·have e8:decide ((8:Int)≤(s.chans.length:Int))=false:=by simp;omega
  have HM:=hid (show Y4 s=0 from if_neg h8);obtain ⟨a0,a1,a2,a3,a4,a5,a6⟩:=F.r1.k7;have z4:=F.r1.frozen 4;have z5:=F.r1.frozen 5;have z6:=F.r1.frozen 6
  go_upto_region 5 with fail
  refine (((F.set1 1 4 _ rfl).set1 1 5 _ rfl).set1 1 6 _ rfl).named (((JJ.refl (w.heap.size+1) w0).cell 4 _).cell 5 _ |>.cell 6 _) ?_;intro w1 F1 O1;clear a0 a1 a2 a3 a4 a5 a6 z4 z5 z6 k5 hs O1;obtain ⟨k0,k1,k2,k3,k4,k5,k6,k7,k8,k9⟩:=F1.r0.k10
  go_wp2_with fail
  refine (aB.out _ F1.b).mono ?_;rintro e w2 ⟨E,p1,d1,p2,d2,p3,d3,p4,d4,p5,d5,p6,d6,p7,d7,rfl,C⟩;have F2:=F1.go E;have M:=F1.r0.lt;have aH:=F1.r2.lt;have hsz2:=E.size;clear E k0 k1 k2 k3 k4 k5 k6 k7 k8 k9;have aC:=hid C;clear C
  go_upto_region 6 with (refine F2.store 0 rfl Qa (by simp) ?_;intro w3 F3 O3)
  have aD:=hid (aC.out.only O3 hN M);have D:=O3.size;have k5:=F3.r0.k10.2.2.2.2.2.1;obtain ⟨a0,a1,a2,a3,a4,a5,a6⟩:=F3.r1.k7;have aG:=hid D;clear D
  go_wp2_with (at_builtin;refine Hid.out ?_)
  refine hid ?_;refine Qvb ?_;intro w4 Y q;have I:=hid (aD.out.below q);have aA:=q.size;have aJ:=aG.out;refine ZO QsT rfl _ _ rfl w1.heap.size _ (s.chans.map Qr) rfl I.out.chans _ _ (Qr (⟨o.state,o.ordered,o.conn,o.ochan,1,1,1⟩:Ch)) rfl (QgJ Y) (Qec (l:=[(⟨o.state,o.ordered,o.conn,o.ochan,1,1,1⟩:Ch)])) (by simp;omega) (by omega) ?_
  intro g da w5 m L O A;have F4:=F3.go q;have F5:=F4.past L (by omega) F1.lts
  have S:(s.chans.map Qr).length+1=(s.chans ++ [(⟨o.state,o.ordered,o.conn,o.ochan,1,1,1⟩:Ch)]).length:=by simp
  rw [S] at m ⊢;obtain ⟨pa,T⟩:∃ pa:Option Addr,some ⟨g,0,none⟩=pa:=⟨_,rfl⟩;have hrow':JA 86 Qr 7 w5 w1.heap.size (.slice (some ⟨g,0,none⟩) (s.chans ++ [(⟨o.state,o.ordered,o.conn,o.ochan,1,1,1⟩:Ch)]).length da) (s.chans ++ [(⟨o.state,o.ordered,o.conn,o.ochan,1,1,1⟩:Ch)]):=by have:=m;rw [show s.chans.map Qr ++ [Qr (⟨o.state,o.ordered,o.conn,o.ochan,1,1,1⟩:Ch)]=(s.chans ++ [(⟨o.state,o.ordered,o.conn,o.ochan,1,1,1⟩:Ch)]).map Qr by simp] at this;exact this
  have G:=I.out.putChans O hrow' (fun b e=>by obtain rfl:g=b:=(by simpa [Value.ownBlock] using e);exact A.imp id (fun h=>by omega))
  rw [T] at G ⊢;have aE:=hid G;clear m hrow' G L O A T q aJ aA Y k5 a0 a1 a2 a3 a4 a5 a6 S;generalize aI:(s.chans ++ [(⟨o.state,o.ordered,o.conn,o.ochan,1,1,1⟩:Ch)]).length=ln at *;clear aI;have g5:=F5.r0.k10.2.2.2.2.2.1;have z5:=F5.r0.frozen 5
  go_upto_region 7 with fail
  refine F5.cell 0 rfl ?_;intro w6 F6 O6;have aF:=hid (aE.out.only O6 hN M);clear g5 z5 O6 O3;obtain ⟨k0,k1,k2,k3,k4,k5,k6,k7,k8,k9⟩:=F6.r0.k10
  go_wp2_with (refine F6.store 2 rfl Qa (by simp) ?_;intro w7 F7 O7)
  refine Ya results84 rfl F7.r2 Qa rfl ⟨F7.b,_,by rw [HM.out];rfl,?_⟩
  rw [HM.out];exact ((aF.out.only O7 (by omega) aH).lower (by omega)).holds
theorem QbA (s:St) (v:Value) (N:Nat) (w:World) (i:Int) (o:Ch) (hv:StV w N v s) (hN:N≤w.heap.size) (C:s.fits) (z:few s) (hi:0≤i∧i<(s.chans.length:Int)) :
  Calls prog 87 #[v,Bb i,.agg #[Bb o.state,.bool o.ordered,Bb o.conn,Bb o.ochan,Bb o.send,Bb o.recv,Bb o.ack]] w fun e w'=>Bd w w'∧∃ v',e=.returned v'∧Qp N w.heap.size w' v' { s with chans:=s.chans.set i.toNat o }:=by
 have O:=hid (fun wx (hx:Bd w wx)=>QlH s v N wx (hv.below (hx.mono hN)) (Bh hN hx.size) C z)
 have hlc:s.chans.length≤100:=z.2.2.1;obtain ⟨k,rfl⟩:∃ k:Nat,i=(k:Int):=⟨i.toNat,by omega⟩
 obtain ⟨x,hx⟩:∃ x,s.chans[k]?=some x:=⟨_,Bk (by omega)⟩
 have HX:=hid hx;obtain ⟨o1,c1,o2,c2,o3,c3,o4,c4,o5,c5,o6,c6,o7,c7,rfl,hm⟩:=hv.open;clear hv hm C z hx
 go_in
 go_upto_region 1 with fail
 refine JR ?_;intro w0 F hs;obtain ⟨k0,k1,k2,k3,k4,k5,k6,k7,k8,k9⟩:=F.r0.k10
 go_wp2_with fail
 refine (O.out _ F.b).mono ?_;rintro e w2 ⟨L,p1,d1,p2,d2,p3,d3,p4,d4,p5,d5,p6,d6,p7,d7,rfl,D⟩;have F2:=F.go L;have Y:=F.r0.lt;have aA:=F.r2.lt;have hg1:=F.r1.lt;clear L k0 k1 k2 k3 k4 k5 k6 k7 k8 k9 hs;have S:=hid D;clear D
 go_upto_region 2 with (refine F2.store 0 rfl Qa (by simp) ?_;intro w3 F3 O3)
 have A:=S.out.only O3 hN Y;obtain ⟨g,rfl,aB,hgl,j,m⟩:=Qf.at A.chans (r:=Qr x) (i:=k) (by rw [Bs,HX.out];rfl)
 have f0:=j 0 _ rfl;have z0:=m (k*7);have f1:=j 1 _ rfl;have z1:=m (k*7+1);have f2:=j 2 _ rfl;have z2:=m (k*7+2);have f3:=j 3 _ rfl;have z3:=m (k*7+3);have f4:=j 4 _ rfl;have z4:=m (k*7+4);have f5:=j 5 _ rfl;have z5:=m (k*7+5);have f6:=j 6 _ rfl;have z6:=m (k*7+6);simp only [BK] at f0;have hlt:(k:Int)<(s.chans.length:Int):=by omega
 have k5:=F3.r0.k10.2.2.2.2.2.1;obtain ⟨a0,a1,a2,a3,a4,a5,a6⟩:=F3.r1.k7
 have E:JA 86 Qr 7 (w3.setCells g (k*7) (Qr o)) w0.heap.size (.slice (some ⟨g,0,none⟩) s.chans.length d3) (s.chans.set k o):=by
  have:=Qf.put A.chans (i:=k) (r:=Qr o) (by rw [Bp];omega) (Qec (l:=[o]) _ (by simp))
  rw [← Dc] at this;exact this
 have M:=A.putChans (Q3 w3 g (k*7) (Qr o)) E (fun b e=>.inl e)
 have F4:=F3.past (JP (Bj g) (Qr o) (k*7) w3 (Bi _ _)) (by omega) (fun q hq=>Bt (F.lts q hq) aB)
 have I:=hid M;clear A M E j m;obtain ⟨w4,G⟩:∃ w4,w3.setCells g (k*7) (Qr o)=w4:=⟨_,rfl⟩;rw [G] at I F4;have T:=hid G;clear G O3
 go_upto_region 3 with fail
 refine Qaj T.out ?_;clear k5 a0 a1 a2 a3 a4 a5 a6 f0 z0 f1 z1 f2 z2 f3 z3 f4 z4 f5 z5 f6 z6;obtain ⟨k0,k1,k2,k3,k4,k5,k6,k7,k8,k9⟩:=F4.r0.k10
 go_wp2_with (refine F4.store 2 rfl Qa (by simp) ?_;intro w7 F7 O7)
 refine Qfe results87 rfl F7.r2 Qa rfl ⟨F7.b,_,rfl,?_⟩;exact ((I.out.only O7 (by omega) aA).lower (base':=w.heap.size) (by omega)).holds
theorem QpE (s:St) (v:Value) (N:Nat) (w:World) (i:Int) (od:Bool) (hv:StV w N v s) (hN:N≤w.heap.size) (j:s.fits) :
  Calls prog 54 #[v,Bb i,.bool od] w fun e w'=>Bd w w'∧∃ v',e=.returned (.tuple #[v',Bb (QcQ s (Qav s i)),Bb (Qav s i)])∧Qp N w.heap.size w' v' (QfB s i od):=by
 have M:=hid (fun wx (hx:Bd w wx)=>Qhg s v N wx i (hv.below (hx.mono hN)) (Bh hN hx.size) j)
 have E:=hid (fun (h0:Jh s i=0) wx (hx:Bd w wx)=>Qg5 s v N wx ⟨1,od,i,-1,0,0,0⟩ (hv.below (hx.mono hN)) (Bh hN hx.size) j (QE (Z0 h0).1))
 have HD:=hid (show Qav s i=if Jh s i≠0 then Jh s i else Y4 s from rfl)
 have q:=hid (show QfB s i od=QgS s (Qav s i) ⟨1,od,i,-1,1,1,1⟩ from rfl);obtain ⟨o1,c1,o2,c2,o3,c3,o4,c4,o5,c5,o6,c6,o7,c7,rfl,hm⟩:=hv.open;clear hv hm j
 go_in
 go_upto_region 1 with fail
 refine QdQ ?_;intro w0 F0 hs;clear hs;obtain ⟨k0,k1,k2,k3,k4,k5,k6,k7,k8,k9⟩:=F0.r0.k10
 go_wp2_with fail
 refine (M.out _ F0.b).mono ?_;rintro e w1 ⟨rfl,z⟩;have F:=F0.go z;clear z k0 k1 k2 k3 k4 k5 k6 k7 k8 k9 F0
 by_cases hz:Jh s i=0
 ·have HI:=hid (show Qav s i=Y4 s from HD.out.trans (if_neg (by simp [hz])))
  have D:=hid (E.out hz);rw [hz];clear hz;obtain ⟨k0,k1,k2,k3,k4,k5,k6,k7,k8,k9⟩:=F.r0.k10
  go_wp2_with fail
  refine (D.out _ F.b).mono ?_;rintro e w2 ⟨A,v',rfl,m⟩;have F2:=F.go A;clear A k0 k1 k2 k3 k4 k5 k6 k7 k8 k9;obtain ⟨a0,a1,a2,a3,a4,a5,a6,a7,a8,a9,rfl,C⟩:=m.now.ten;have O:=hid m;have L:=hid C;clear m C
  go_wp2_with (refine F2.store 1 rfl Qa L.out ?_;intro w3 F3 O3)
  refine Ya results54 rfl F3.r1 Qa rfl ⟨F3.b,_,by rw [HI.out];rfl,?_⟩
  rw [q.out,HI.out];exact (O.out.only O3 (by omega) F.r1.lt).lower F.b.size
 ·have e0:(Jh s i != 0)=true:=by simpa using hz
  have HI:=hid (show Qav s i=Jh s i from HD.out.trans (if_pos hz));have I:=hid (show QfB s i od=St.none from q.out.trans (by rw [HD.out,if_pos hz];exact if_neg hz))
  have G:=hid (show QcQ s (Jh s i)=0 from if_neg hz);clear hz;generalize Jh s i=zz at *
  go_wp2_with (refine F.store 1 rfl Qa (by simp) ?_;intro wz FZ OZ)
  refine Ya results54 rfl FZ.r1 Qa rfl ⟨FZ.b,_,by rw [HI.out,G.out];rfl,?_⟩
  rw [I.out];exact Qg _ _ _
theorem QrF (s:St) (v C:Value) (N:Nat) (w:World) (i q z:Int) (od:Bool) (h:Sh) (hv:StV w N v s) (hh:ShV w N C h) (hN:N≤w.heap.size) (j:s.fits) (M:h.fits) (A:Qi w) (m:QL w) (hz:QaZ s ⟨2,od,i,q,0,0,0⟩ 1 (-1) h z) :
  Calls prog 55 #[v,Bb i,.bool od,Bb q,C] w fun e w'=>Bd w w'∧∃ v',e=.returned (.tuple #[v',Bb (QcQ s (Qam s i q z)),Bb (Qam s i q z)])∧Qp N w.heap.size w' v' (QlI s i od q z):=by
 have aA:=hid (fun wx (hx:Bd w wx)=>Qhg s v N wx i (hv.below (hx.mono hN)) (Bh hN hx.size) j)
 have S:=hid (fun (h0:Jh s i=0) wx (hx:Bd w wx)=>Qg5 s v N wx ⟨2,od,i,q,0,0,0⟩ (hv.below (hx.mono hN)) (Bh hN hx.size) j (QE (Z0 h0).1))
 have T:=hid (fun (h0:Jh s i=0) (hq:Qs 0 q=true) wx (hx:Bd w wx)=>Qhb s v C N wx 1 (-1) z ⟨2,od,i,q,0,0,0⟩ h (hv.below (hx.mono hN)) (hh.below (hx.mono hN)) (Bh hN hx.size) j M (A.past hx) (m.below hx) (Z0 h0).1 (Z0 h0).2 ((Q6 _ _).1 hq) (by omega) (by omega) hz)
 have HI:=hid (show Qam s i q z=if (Jh s i != 0)=true then Jh s i else if (!Qs 0 q)=true then 3 else if (z != 0)=true then z else Y4 s by simp [Qam])
 have HS:=hid (show QlI s i od q z=QgS s (Qam s i q z) ⟨2,od,i,q,1,1,1⟩ from rfl);obtain ⟨o1,c1,o2,c2,o3,c3,o4,c4,o5,c5,o6,c6,o7,c7,rfl,-⟩:=hv.open;obtain ⟨q1,e1,q2,e2,q3,e3,r1,s1,r2,s2,r3,s3,r4,s4,r5,s5,r6,s6,rfl,-⟩:=hh.open;clear hv j hh M A m hz
 go_in
 go_upto_region 1 with fail
 refine JR ?_;intro w0 F0 hs
 go_wp2_with (refine F0.load 0 rfl Qa ?_)
 refine (aA.out _ F0.b).mono ?_;rintro e w1 ⟨rfl,G⟩;have F:=F0.go G;clear G F0 hs
 cases e0:(Jh s i != 0)
 cases e1:Qs 0 q
 rotate_left
 ·have h0:Jh s i=0:=by simpa using e0
  have HA:=hid (S.out h0);have HM:=hid (T.out h0 e1);replace HI:=hid (HI.out.trans (by simp only [e0,e1];rfl))
  clear h0
  go_upto_region 7 with (go_at_call 14;refine (JC _ _ _).mono ?_;rintro e w' ⟨rfl,E⟩;obtain rfl:=E.symm)
  refine F.box ?_;intro w2 F2 aD aC;clear aD aC F
  go_wp2_with (first | refine F2.load 0 rfl Qa ?_ | refine F2.load 1 rfl QN ?_ | refine F2.load 3 rfl YY ?_)
  refine (HM.out _ F2.b).mono ?_;rintro e w3 ⟨rfl,I⟩;have F:=F2.go I;clear I F2
  cases e3:(z != 0)
  ·replace HI:=hid (show Qam s i q z=Y4 s by rw [HI.out];simp [e3])
   go_wp2_with (first | refine F.load 0 rfl Qa ?_ | refine F.load 3 rfl YY ?_)
   refine (HA.out _ F.b).mono ?_;rintro e w4 ⟨L,v',rfl,D⟩;have F4:=F.go L;have hg:=F.r2.lt;obtain ⟨a0,a1,a2,a3,a4,a5,a6,a7,a8,a9,rfl,O⟩:=D.now.ten;have aB:=hid D;have Y:=hid O;have hz:=F.sz;clear L D O F
   go_wp2_with (refine F4.store 2 rfl Qa Y.out ?_;intro w5 F5 O5)
   refine Ya results55 rfl F5.r2 Qa rfl ⟨F5.b,_,by rw [HI.out];rfl,?_⟩
   rw [HS.out,HI.out];exact (aB.out.only O5 (by omega) hg).lower hz
  ·have hn:Qam s i q z≠0:=by rw [HI.out];grind
   have HN:=hid (show QcQ s (Qam s i q z)=0 from if_neg hn);replace HS:=hid (HS.out.trans (if_neg hn));replace HI:=hid (show Qam s i q z=z by rw [HI.out];simp [e3])
   clear hn
   go_wp2_with (refine F.store 2 rfl Qa (by simp) ?_;intro wz FZ OZ)
   refine Ya results55 rfl FZ.r2 Qa rfl ⟨FZ.b,_,by rw [HN.out,HI.out];rfl,?_⟩
   rw [HS.out];exact Qg _ _ _
 all_goals
  have hn:Qam s i q z≠0:=by rw [HI.out];grind
  have HN:=hid (show QcQ s (Qam s i q z)=0 from if_neg hn);replace HS:=hid (HS.out.trans (if_neg hn));replace HI:=hid (HI.out.trans (by simp only [*];rfl))
  clear hn
  go_wp2_with (first | (go_at_call 14;refine (JC _ _ _).mono ?_;rintro e w' ⟨rfl,E⟩;obtain rfl:=E.symm) | refine F.store 2 rfl Qa (by simp) ?_;intro wz FZ OZ)
  refine Ya results55 rfl FZ.r2 Qa rfl ⟨FZ.b,_,by rw [HN.out,HI.out];rfl,?_⟩
  rw [HS.out];exact Qg _ _ _
theorem Qrl (s:St) (v C:Value) (N:Nat) (w:World) (i q z:Int) (h:Sh) (hv:StV w N v s) (hh:ShV w N C h) (hN:N≤w.heap.size) (j:s.fits) (S:h.fits) (A:Qi w) (m:QL w) (hz:QaZ s ⟨3,(Qv s i).ordered,(Qv s i).conn,q,0,0,0⟩ 2 i h z) :
  Calls prog 56 #[v,Bb i,Bb q,C] w fun e w'=>Bd w w'∧∃ v',e=.returned (.tuple #[v',Bb (QdM s i q z)])∧Qp N w.heap.size w' v' (Qlw s i q z):=by
 have aC:=hid (fun wx gl (hx:Bd w wx) hl=>QkW s v N wx i 1 gl (hv.below (hx.mono hN)) (Bh hN hx.size) j hl)
 have Y:=hid (fun (h0:Jv s i 1=0) (o:Ch) wx (hx:Bd w wx)=>QbA s v N wx i o (hv.below (hx.mono hN)) (Bh hN hx.size) j (QE (Q2 h0).1) (Q2 h0).2.1)
 have aA:=hid (fun (h0:Jv s i 1=0) (hq:Qs 0 q=true) wx (hx:Bd w wx)=>Qhb s v C N wx 2 i z ((Qv s i).turned (Qv s i).state q) h (hv.below (hx.mono hN)) (hh.below (hx.mono hN)) (Bh hN hx.size) j S (A.past hx) (m.below hx) (Q2 h0).1 (Q2 h0).2.2.2 ((Q6 _ _).1 hq) (by omega) (by have:=(Q2 h0).2.1;have:=(QE (Q2 h0).1).2.2.1;omega) hz)
 have HI:=hid (show QdM s i q z=if (Jv s i 1 != 0)=true then Jv s i 1 else if (!Qs 0 q)=true then 3 else z by simp [QdM])
 have HS:=hid (show Qlw s i q z=Qgj s (QdM s i q z) i ((Qv s i).turned 3 q) from rfl);obtain ⟨o1,c1,o2,c2,o3,c3,o4,c4,o5,c5,o6,c6,o7,c7,rfl,hm⟩:=hv.open;obtain ⟨q1,e1,q2,e2,q3,e3,r1,s1,r2,s2,r3,s3,r4,s4,r5,s5,r6,s6,rfl,-⟩:=hh.open;have HM:=hid hm;clear hv hm j hh S A m hz
 go_in
 go_upto_region 1 with fail
 refine JR ?_;intro w0 F0 hs
 go_wp2_with (refine F0.load 0 rfl Qa ?_)
 refine Qb4 ?_;intro wl hl O;have F1:=F0.go O;refine (aC.out _ _ F1.b hl).mono ?_;rintro e w1 ⟨rfl,I⟩;have F:=F1.go I;clear I O hl F0 F1 hs
 cases e0:(Jv s i 1 != 0)
 cases e1:Qs 0 q
 rotate_left
 ·have e2:Jv s i 1=0:=by simpa using e0
  obtain ⟨k,rfl⟩:∃ k:Nat,i=(k:Int):=⟨i.toNat,by have:=Q2 e2;omega⟩
  have hlt:=(Q2 e2).2.1.2;obtain ⟨x,hx⟩:∃ x,s.chans[k]?=some x:=⟨_,Bk (by omega)⟩
  have HA:=hid (Y.out e2);have G:=hid (aA.out e2 e1);rw [Ym hx] at HS G;replace HI:=hid (show QdM s (k:Int) q z=z by rw [HI.out];simp [e0,e1])
  obtain ⟨b,f,rfl,hb,x0,x1,x2,x3,x4,x5,x6⟩:=(HM.out.below (F.b.mono hN)).chans.chan rfl hx;have k5:=F.r0.k10.2.2.2.2.2.1;clear e2 hx
  go_upto_region 7 with (go_at_call 14;refine (JC _ _ _).mono ?_;rintro e w' ⟨rfl,E⟩;obtain rfl:=E.symm)
  refine F.box ?_;intro w1 F1 aF aE;clear aF aE x0 x1 x2 x3 x4 x5 x6 k5 F;have a3:=F1.r3.k7.2.2.2.1;have z3:=F1.r3.frozen 3
  go_upto_region 8 with fail
  refine F1.cell 3 rfl ?_;intro w2 F2 O2;clear a3 z3 O2 F1
  go_wp2_with (first | refine F2.load 0 rfl Qa ?_ | refine F2.load 1 rfl QN ?_ | refine F2.load 3 rfl YY ?_)
  refine (G.out _ F2.b).mono ?_;rintro e w4 ⟨rfl,L⟩;have F:=F2.go L;clear L F2
  cases e3:(z != 0)
  ·obtain rfl:z=0:=by simpa using e3
   have a0:=F.r3.k7.1;have z0:=F.r3.frozen 0
   go_upto_region 12 with fail
   refine F.cell 3 rfl ?_;intro w5 F5 O5;clear a0 z0 O5 F
   go_wp2_with (first | refine F5.load 0 rfl Qa ?_ | refine F5.load 3 rfl YY ?_)
   refine (HA.out (x.turned 3 q) _ F5.b).mono ?_;rintro e w6 ⟨M,v',rfl,D⟩;have F6:=F5.go M;have hg:=F5.r2.lt;have hz:=F5.sz;obtain ⟨a0,a1,a2,a3,a4,a5,a6,a7,a8,a9,rfl,T⟩:=D.now.ten;have aD:=hid D;have aB:=hid T;clear M D T F5
   go_wp2_with (refine F6.store 2 rfl Qa aB.out ?_;intro w7 F7 O7)
   refine Qk results56 rfl F7.r2 Qa rfl ⟨F7.b,_,by rw [HI.out];rfl,?_⟩
   rw [HS.out,HI.out];exact (aD.out.only O7 (by omega) hg).lower hz
  ·replace HS:=hid (HS.out.trans (if_neg (by rw [HI.out];simpa using e3)))
   go_wp2_with (refine F.store 2 rfl Qa (by simp) ?_;intro wz FZ OZ)
   refine Qk results56 rfl FZ.r2 Qa rfl ⟨FZ.b,_,by rw [HI.out];rfl,?_⟩
   rw [HS.out];exact Qg _ _ _
 all_goals
  replace HS:=hid (HS.out.trans (if_neg (by rw [HI.out];grind)))
  replace HI:=hid (HI.out.trans (by simp only [*];rfl))
  go_wp2_with (first | (go_at_call 14;refine (JC _ _ _).mono ?_;rintro e w' ⟨rfl,E⟩;obtain rfl:=E.symm) | refine F.store 2 rfl Qa (by simp) ?_;intro wz FZ OZ)
  refine Qk results56 rfl FZ.r2 Qa rfl ⟨FZ.b,_,by rw [HI.out];rfl,?_⟩
  rw [HS.out];exact Qg _ _ _
theorem Qpr (s:St) (v A:Value) (N:Nat) (w:World) (i st te z:Int) (aH:1≤te∧te≤4) (h:Sh) (hv:StV w N v s) (hh:ShV w N A h) (hN:N≤w.heap.size) (j:s.fits) (M:h.fits) (q:Qi w) (m:QL w) (hz:QaZ s ⟨st,(Qv s i).ordered,(Qv s i).conn,(Qv s i).ochan,0,0,0⟩ te i h z) :
  Calls prog 88 #[v,Bb i,Bb st,Bb te,A] w fun e w'=>Bd w w'∧∃ v',e=.returned (.tuple #[v',Bb (Zs s i st z)])∧Qp N w.heap.size w' v' (QcR s i st z te):=by
 have aB:=hid (fun wx gl (hx:Bd w wx) hl=>QkW s v N wx i st gl (hv.below (hx.mono hN)) (Bh hN hx.size) j hl)
 have S:=hid (fun (h0:Jv s i st=0) (o:Ch) wx (hx:Bd w wx)=>QbA s v N wx i o (hv.below (hx.mono hN)) (Bh hN hx.size) j (QE (Q2 h0).1) (Q2 h0).2.1)
 have Y:=hid (fun (h0:Jv s i st=0) (hq:decide ((Qv s i).ochan<0)=false) (aF:(Qv s i).ochan≤1000000000000) wx (hx:Bd w wx)=>Qhb s v A N wx te i z (Qv s i) h (hv.below (hx.mono hN)) (hh.below (hx.mono hN)) (Bh hN hx.size) j M (q.past hx) (m.below hx) (Q2 h0).1 (Q2 h0).2.2.2 ⟨by simpa using hq,aF⟩ aH (by have:=(Q2 h0).2.1;have:=(QE (Q2 h0).1).2.2.1;omega) hz)
 have HI:=hid (show Zs s i st z=if (Jv s i st != 0)=true then Jv s i st else if decide ((Qv s i).ochan<0)=true then 8 else z by simp [Zs])
 have HS:=hid (show QcR s i st z te=Qgj s (Zs s i st z) i ((Qv s i).turned te (Qv s i).ochan) from rfl);obtain ⟨o1,c1,o2,c2,o3,c3,o4,c4,o5,c5,o6,c6,o7,c7,rfl,hm⟩:=hv.open;obtain ⟨q1,e1,q2,e2,q3,e3,r1,s1,r2,s2,r3,s3,r4,s4,r5,s5,r6,s6,rfl,-⟩:=hh.open;have HM:=hid hm;clear hv hm j hh M q m hz
 go_in
 go_upto_region 1 with fail
 refine JR ?_;intro w0 F0 hs
 go_wp2_with (refine F0.load 0 rfl Qa ?_)
 refine Qb4 ?_;intro wl hl L;have F1:=F0.go L;refine (aB.out _ _ F1.b hl).mono ?_;rintro e w1 ⟨rfl,E⟩;have F:=F1.go E;clear E L hl F0 F1 hs
 cases e0:(Jv s i st != 0)
 ·have e2:Jv s i st=0:=by simpa using e0
  obtain ⟨k,rfl⟩:∃ k:Nat,i=(k:Int):=⟨i.toNat,by have:=Q2 e2;omega⟩
  have hlt:=(Q2 e2).2.1.2;obtain ⟨x,hx⟩:∃ x,s.chans[k]?=some x:=⟨_,Bk (by omega)⟩
  have HA:=hid (S.out e2);have D:=hid (Y.out e2);have aD:=hid (Jy ((QB (Q2 e2).1).chans x (Bn hx))).2.2.1.2;rw [Ym hx] at HS D HI;obtain ⟨b,f,rfl,hb,x0,x1,x2,x3,x4,x5,x6⟩:=(HM.out.below (F.b.mono hN)).chans.chan rfl hx;have k5:=F.r0.k10.2.2.2.2.2.1;clear e2 hx
  go_upto_region 5 with fail
  refine F.box ?_;intro w2 F2 aG aE;clear aG aE x0 x1 x2 x3 x4 x5 x6 k5 F;have a3:=F2.r3.k7.2.2.2.1
  cases e1:decide (x.ochan<0)
  rotate_left
  ·replace HI:=hid (show Zs s (k:Int) st z=8 by rw [HI.out];simp [e0,e1])
   go_wp2_with (refine F2.store 2 rfl Qa (by simp) ?_;intro wz FZ OZ)
   refine Qk results88 rfl FZ.r2 Qa rfl ⟨FZ.b,_,by rw [HI.out];rfl,?_⟩
   rw [HS.out,HI.out];exact Qg _ _ _
  replace HI:=hid (show Zs s (k:Int) st z=z by rw [HI.out];simp [e0,e1])
  have T:=hid (D.out e1 aD.out)
  go_wp2_with (first | refine F2.load 0 rfl Qa ?_ | refine F2.load 1 rfl QN ?_ | refine F2.load 3 rfl YY ?_)
  refine (T.out _ F2.b).mono ?_;rintro e w4 ⟨rfl,G⟩;have F:=F2.go G;clear G F2 a3
  cases e3:(z != 0)
  ·obtain rfl:z=0:=by simpa using e3
   have a0:=F.r3.k7.1;have z0:=F.r3.frozen 0
   go_upto_region 11 with fail
   refine F.cell 3 rfl ?_;intro w5 F5 O5;clear a0 z0 O5 F
   go_wp2_with (first | refine F5.load 0 rfl Qa ?_ | refine F5.load 3 rfl YY ?_)
   refine (HA.out (x.turned te x.ochan) _ F5.b).mono ?_;rintro e w6 ⟨I,v',rfl,C⟩;have F6:=F5.go I;have hg:=F5.r2.lt;have hz:=F5.sz;obtain ⟨a0,a1,a2,a3,a4,a5,a6,a7,a8,a9,rfl,O⟩:=C.now.ten;have aC:=hid C;have aA:=hid O;clear I C O F5
   go_wp2_with (refine F6.store 2 rfl Qa aA.out ?_;intro w7 F7 O7)
   refine Qk results88 rfl F7.r2 Qa rfl ⟨F7.b,_,by rw [HI.out];rfl,?_⟩
   rw [HS.out,HI.out];exact (aC.out.only O7 (by omega) hg).lower hz
  ·replace HS:=hid (HS.out.trans (if_neg (by rw [HI.out];simpa using e3)))
   go_wp2_with (refine F.store 2 rfl Qa (by simp) ?_;intro wz FZ OZ)
   refine Qk results88 rfl FZ.r2 Qa rfl ⟨FZ.b,_,by rw [HI.out];rfl,?_⟩
   rw [HS.out];exact Qg _ _ _
 ·replace HI:=hid (HI.out.trans (if_pos e0))
  replace HS:=hid (HS.out.trans (if_neg (by rw [HI.out];simpa using e0)))
  go_wp2_with (refine F.store 2 rfl Qa (by simp) ?_;intro wz FZ OZ)
  refine Qk results88 rfl FZ.r2 Qa rfl ⟨FZ.b,_,by rw [HI.out];rfl,?_⟩
  rw [HS.out];exact Qg _ _ _
theorem Qjm (s:St) (v j:Value) (N:Nat) (w:World) (i z:Int) (h:Sh) (hv:StV w N v s) (hh:ShV w N j h) (hN:N≤w.heap.size) (m:s.fits) (E:h.fits) (A:Qi w) (q:QL w) :
  (QaZ s ⟨2,(Qv s i).ordered,(Qv s i).conn,(Qv s i).ochan,0,0,0⟩ 3 i h z→Calls prog 57 #[v,Bb i,j] w fun e w'=>Bd w w'∧∃ v',e=.returned (.tuple #[v',Bb (Zs s i 2 z)])∧Qp N w.heap.size w' v' (QcR s i 2 z 3)) ∧
  (QaZ s ⟨3,(Qv s i).ordered,(Qv s i).conn,(Qv s i).ochan,0,0,0⟩ 4 i h z→Calls prog 59 #[v,Bb i,j] w fun e w'=>Bd w w'∧∃ v',e=.returned (.tuple #[v',Bb (Zs s i 3 z)])∧Qp N w.heap.size w' v' (QcR s i 3 z 4)):=by
 have I:=hid (fun st te O wx (hx:Bd w wx)=>Qpr s v j N wx i st te z O h (hv.below (hx.mono hN)) (hh.below (hx.mono hN)) (Bh hN hx.size) m E (A.past hx) (q.below hx))
 obtain ⟨o1,c1,o2,c2,o3,c3,o4,c4,o5,c5,o6,c6,o7,c7,rfl,-⟩:=hv.open;obtain ⟨q1,e1,q2,e2,q3,e3,r1,s1,r2,s2,r3,s3,r4,s4,r5,s5,r6,s6,rfl,-⟩:=hh.open;clear hv m hh E A q
 constructor
 all_goals
  intro hz
  go_in
  go_upto_region 1 with fail
  refine JR ?_;intro w0 F0 hs
  go_wp2_with (first | refine F0.load 0 rfl Qa ?_ | refine F0.load 1 rfl QN ?_)
  refine (I.out _ _ (by omega) _ F0.b hz).mono ?_
  rintro e w1 ⟨D,v',rfl,C⟩;have F:=F0.go D;have hg:=F0.r2.lt;have hy:=F0.sz;obtain ⟨a0,a1,a2,a3,a4,a5,a6,a7,a8,a9,rfl,G⟩:=C.now.ten;have M:=hid C;have L:=hid G;clear hs D C G F0
  go_wp2_with (refine F.store 2 rfl Qa L.out ?_;intro w3 F3 O3)
  refine Qk (by first | exact results57 | exact results59) rfl F3.r2 Qa rfl ⟨F3.b,_,rfl,?_⟩
  exact (M.out.only O3 (by omega) hg).lower hy
theorem Qnm (s:St) (v:Value) (N:Nat) (w:World) (i:Int) (hv:StV w N v s) (hN:N≤w.heap.size) (j:s.fits) :
  Calls prog 58 #[v,Bb i] w fun e w'=>Bd w w'∧∃ v',e=.returned (.tuple #[v',Bb (Jv s i 3)])∧Qp N w.heap.size w' v' (QfD s i):=by
 have M:=hid (fun wx gl (hx:Bd w wx) hl=>QkW s v N wx i 3 gl (hv.below (hx.mono hN)) (Bh hN hx.size) j hl)
 have G:=hid (fun (h0:Jv s i 3=0) (o:Ch) wx (hx:Bd w wx)=>QbA s v N wx i o (hv.below (hx.mono hN)) (Bh hN hx.size) j (QE (Q2 h0).1) (Q2 h0).2.1)
 have m:=hid (show QfD s i=Qgj s (Jv s i 3) i ((Qv s i).turned 4 (Qv s i).ochan) from rfl);obtain ⟨o1,c1,o2,c2,o3,c3,o4,c4,o5,c5,o6,c6,o7,c7,rfl,hm⟩:=hv.open;have HM:=hid hm;clear hv hm j
 go_in
 go_upto_region 1 with fail
 refine QdQ ?_;intro w0 F0 hs;clear hs
 go_wp2_with (refine F0.load 0 rfl Qa ?_)
 refine Qb4 ?_;intro wl hl C;have F1:=F0.go C;refine (M.out _ _ F1.b hl).mono ?_;rintro e w1 ⟨rfl,z⟩;have F:=F1.go z;clear z C hl F0 F1
 by_cases hz:Jv s i 3=0
 ·have E:=hid (G.out hz)
  have hr:=(Q2 hz).2.1;have HI:=hid hz;rw [hz];clear hz;obtain ⟨k,rfl⟩:∃ k:Nat,i=(k:Int):=⟨i.toNat,by omega⟩
  obtain ⟨x,hx⟩:∃ x,s.chans[k]?=some x:=⟨_,Bk (by omega)⟩
  have HX:=hid hx;rw [Ym hx] at m;clear hx;have hlt:(k:Int)<(s.chans.length:Int):=by omega
  obtain ⟨b,f,rfl,hb,x0,x1,x2,x3,x4,x5,x6⟩:=(HM.out.below (F.b.mono hN)).chans.chan rfl HX.out;have k5:=F.r0.k10.2.2.2.2.2.1
  go_upto_region 5 with fail
  refine F.box ?_;intro w2 F2 T S;clear T S x0 x1 x2 x3 x4 x5 x6 k5;have a0:=F2.r2.k7.1;have z0:=F2.r2.frozen 0
  go_upto_region 6 with fail
  refine F2.cell 2 rfl ?_;intro w5 F5 O5;clear a0 z0 O5 F2;obtain ⟨k0,k1,k2,k3,k4,k5,k6,k7,k8,k9⟩:=F5.r0.k10;obtain ⟨a0,a1,a2,a3,a4,a5,a6⟩:=F5.r2.k7
  go_wp2_with fail
  refine (E.out (x.turned 4 x.ochan) _ F5.b).mono ?_;rintro e w6 ⟨A,v',rfl,q⟩;have F6:=F5.go A;clear A k0 k1 k2 k3 k4 k5 k6 k7 k8 k9 a0 a1 a2 a3 a4 a5 a6;obtain ⟨a0,a1,a2,a3,a4,a5,a6,a7,a8,a9,rfl,D⟩:=q.now.ten;have O:=hid q;have L:=hid D;clear q D
  go_wp2_with (refine F6.store 1 rfl Qa L.out ?_;intro w7 F7 O7)
  refine Qk results58 rfl F7.r1 Qa rfl ⟨F7.b,_,by rw [HI.out];rfl,?_⟩
  rw [m.out,HI.out];exact (O.out.only O7 (by omega) F5.r1.lt).lower F5.b.size
 ·have e0:(Jv s i 3 != 0)=true:=by simpa using hz
  have I:=hid (show QfD s i=St.none from m.out.trans (if_neg hz));clear hz;generalize hE:Jv s i 3=zz at *;have HI:=hid hE;clear hE
  go_wp2_with (refine F.store 1 rfl Qa (by simp) ?_;intro wz FZ OZ)
  refine Qk results58 rfl FZ.r1 Qa rfl ⟨FZ.b,_,by rw [HI.out];rfl,?_⟩
  rw [I.out];exact Qg _ _ _
theorem Qsw (s:St) (m:Ms) (o:Nat→Option Addr) (c:Nat→Nat) (v:Value) (N:Nat) (w:World) (z:Int) (hv:StV w N v s) (hm:MsM w N m o c) (hN:N≤w.heap.size) (b:s.fits) (j:m.fits) (hi:(-9223372036854775808≤m.pk.dst∧m.pk.dst≤9223372036854775807)∧-9223372036854775808≤m.pk.src∧m.pk.src≤9223372036854775807) (A:Qi w) (q:QL w) (hw:Qd s=0) (hz:Qpt s m z):QcO N w v (.agg (msC m o c).toArray) (QG s m z):=by
 have go:∀ {O},QG s m z=O→QcO N w v (.agg (msC m o c).toArray) O→QcO N w v (.agg (msC m o c).toArray) (QG s m z):=fun e h=>e ▸ h
 have hV:=fun W (hb:Bd w W)=>hv.below (hb.mono hN)
 have hS:=fun W (hb:Bd w W)=>hm.below (hb.mono hN)
 have hZ:=fun W (hb:Bd w W)=>Bh hN hb.size
 have hT:=fun W (hb:Bd w W)=>A.past hb
 have hP:=fun W (hb:Bd w W)=>q.below hb
 have hF:=j.2.2.2.2.1;unfold Qpt at hz
 rcases (show m.kind=1∨m.kind=2∨m.kind=3∨m.kind=4∨m.kind=5∨m.kind=6∨m.kind=7∨m.kind=8∨m.kind=9∨m.kind=10∨m.kind=11∨m.kind=12∨m.kind=13∨m.kind=14∨m.kind=15∨m.kind=16∨m.kind=17∨m.kind=18∨m.kind<1∨18<m.kind by omega) with hk | hk | hk | hk | hk | hk | hk | hk | hk | hk | hk | hk | hk | hk | hk | hk | hk | hk | hk
 ·exact go (by simp [QG,hk];rfl) (Qmo s m o c v N w _ _ _ hv hN (.inl ⟨hk,fun W hb=>QiS s m o c v N W (hV W hb) (hS W hb) (hZ W hb) b j hw⟩))
 ·exact go (by simp [QG,Y7,hk]) (QcE s m o c v N w _ _ hv hN (.inl ⟨hk,fun W hb=>Qdh s m o c v N W (hV W hb) (hS W hb) (hZ W hb) b j (hT W hb) hw⟩))
 ·exact go (by simp [QG,Y7,hk]) (QcE s m o c v N w _ _ hv hN (.inr (.inl ⟨hk,fun W hb=>Qdh s m o c v N W (hV W hb) (hS W hb) (hZ W hb) b j (hT W hb) hw⟩)))
 ·exact go (by simp [QG,hk]) (Qmo s m o c v N w _ _ _ hv hN (.inr (.inl ⟨hk,fun W hb=>Qr1 s v N W m.client m.other (hV W hb) (hZ W hb) b⟩)))
 ·simp [hk] at hz;exact go (by simp [QG,hk]) (Qmo s m o c v N w _ _ _ hv hN (.inr (.inr (.inl ⟨hk,fun W hb=>QuF s v _ N W m.client m.other m.oend z m.sh (hV W hb) (hS W hb).sh (hZ W hb) b hF (hT W hb) (hP W hb) hz⟩))))
 ·simp [hk] at hz;exact go (by simp [QG,Y7,hk]) (QcE s m o c v N w _ _ hv hN (.inr (.inr (.inl ⟨hk,fun W hb=>QtO s v _ N W m.fin m.oend z m.sh (hV W hb) (hS W hb).sh (hZ W hb) b hF (hT W hb) (hP W hb) hz⟩))))
 ·simp [hk] at hz;exact go (by simp [QG,Y7,hk]) (QcE s m o c v N w _ _ hv hN (.inr (.inr (.inr (.inl ⟨hk,fun W hb=>QrA s v _ N W m.fin z m.sh (hV W hb) (hS W hb).sh (hZ W hb) b hF (hT W hb) (hP W hb) hz⟩)))))
 ·exact go (by simp [QG,hk]) (Qmo s m o c v N w _ _ _ hv hN (.inr (.inr (.inr (.inl ⟨hk,fun W hb=>QpE s v N W m.fin m.ordered (hV W hb) (hZ W hb) b⟩)))))
 ·simp [hk] at hz;exact go (by simp [QG,hk]) (Qmo s m o c v N w _ _ _ hv hN (.inr (.inr (.inr (.inr ⟨hk,fun W hb=>QrF s v _ N W m.fin m.oend z m.ordered m.sh (hV W hb) (hS W hb).sh (hZ W hb) b hF (hT W hb) (hP W hb) hz⟩)))))
 ·simp [hk] at hz;exact go (by simp [QG,Y7,hk]) (QcE s m o c v N w _ _ hv hN (.inr (.inr (.inr (.inr (.inl ⟨hk,fun W hb=>Qrl s v _ N W m.fin m.oend z m.sh (hV W hb) (hS W hb).sh (hZ W hb) b hF (hT W hb) (hP W hb) hz⟩))))))
 ·simp [hk] at hz;exact go (by simp [QG,Y7,hk]) (QcE s m o c v N w _ _ hv hN (.inr (.inr (.inr (.inr (.inr (.inl ⟨hk,fun W hb=>(Qjm s v _ N W m.fin z m.sh (hV W hb) (hS W hb).sh (hZ W hb) b hF (hT W hb) (hP W hb)).1 hz⟩)))))))
 ·exact go (by simp [QG,Y7,hk]) (QcE s m o c v N w _ _ hv hN (.inr (.inr (.inr (.inr (.inr (.inr (.inl ⟨hk,fun W hb=>Qnm s v N W m.fin (hV W hb) (hZ W hb) b⟩))))))))
 ·simp [hk] at hz;exact go (by simp [QG,Y7,hk]) (QcE s m o c v N w _ _ hv hN (.inr (.inr (.inr (.inr (.inr (.inr (.inr (.inl ⟨hk,fun W hb=>(Qjm s v _ N W m.fin z m.sh (hV W hb) (hS W hb).sh (hZ W hb) b hF (hT W hb) (hP W hb)).2 hz⟩)))))))))
 ·exact go (by simp [QG,hk]) (Qvm s m o c v N w _ _ _ hk hv hN fun W hb=>Qs6 s m o c v N W (hV W hb) (hZ W hb) b j (hT W hb) (hP W hb) hw)
 ·simp [hk] at hz;exact go (by simp [QG,Y7,hk]) (QcE s m o c v N w _ _ hv hN (.inr (.inr (.inr (.inr (.inr (.inr (.inr (.inr (.inl ⟨hk,fun W hb=>QqL s m o c v N W z (hV W hb) (hS W hb) (hZ W hb) b j hi (hT W hb) (hP W hb) hw hz⟩))))))))))
 ·simp [hk] at hz;exact go (by simp [QG,Y7,hk]) (QcE s m o c v N w _ _ hv hN (.inr (.inr (.inr (.inr (.inr (.inr (.inr (.inr (.inr (.inl ⟨hk,fun W hb=>Qpn s m o c v N W z (hV W hb) (hS W hb) (hZ W hb) b j (hT W hb) (hP W hb) hw hz⟩)))))))))))
 ·simp [hk] at hz;exact go (by simp [QG,Y7,hk]) (QcE s m o c v N w _ _ hv hN (.inr (.inr (.inr (.inr (.inr (.inr (.inr (.inr (.inr (.inr (.inl ⟨hk,fun W hb=>QlP s m o c v N W z (hV W hb) (hS W hb) (hZ W hb) b j (hT W hb) (hP W hb) hw hz⟩))))))))))))
 ·exact go (by simp [QG,hk];rfl) (QcE s m o c v N w _ _ hv hN (.inr (.inr (.inr (.inr (.inr (.inr (.inr (.inr (.inr (.inr (.inr ⟨hk,fun W hb=>QlU s m o c v N W (hV W hb) (hZ W hb) b j.2.2.2.2.2.1 hw⟩))))))))))))
 ·exact go (by unfold QG Y7;simp [show m.kind≠1∧m.kind≠2∧m.kind≠3∧m.kind≠4∧m.kind≠5∧m.kind≠6∧m.kind≠7∧m.kind≠8∧m.kind≠9∧m.kind≠10∧m.kind≠11∧m.kind≠12∧m.kind≠13∧m.kind≠14∧m.kind≠15∧m.kind≠16∧m.kind≠17∧m.kind≠18 by omega]) (QvZ s m o c v N w hk hv hN)
theorem QvT (s:St) (m:Ms) (o:Nat→Option Addr) (c:Nat→Nat) (v:Value) (N:Nat) (w:World) (z:Int) (hv:StV w N v s) (hm:MsM w N m o c) (hN:N≤w.heap.size) (b:s.fits) (A:m.fits) (hi:(-9223372036854775808≤m.pk.dst∧m.pk.dst≤9223372036854775807)∧-9223372036854775808≤m.pk.src∧m.pk.src≤9223372036854775807) (q:Qi w) (j:QL w) (hz:Qpt s m z) :
  Calls prog 8 #[v,.agg (msC m o c).toArray] w fun e w'=>Bd w w'∧∃ x,e=.returned x∧Qrc N w.heap.size w' x (doO s m z) :=
 QrN s m o c v N w (QG s m z) hv hN b fun hw W hb=>Qsw s m o c v N W z (hv.below (hb.mono hN)) (hm.below (hb.mono hN)) (Bh hN hb.size) b A hi (q.past hb) (j.below hb) hw hz
end Go.Proofs.YtnedafiokmjkkaaGreatDoor
