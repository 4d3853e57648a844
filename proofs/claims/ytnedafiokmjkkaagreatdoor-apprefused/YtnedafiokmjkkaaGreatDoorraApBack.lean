/- What a packet carried is its sender's again. -/
import Derived.Test.YtnedafiokmjkkaaGreatDoorraApMath
import Derived.Laws.RangeString
namespace Go.Proofs.YtnedafiokmjkkaaGreatDoor
open Tryz
set_option maxRecDepth 1000000
set_option maxHeartbeats 8000000
open Go.RowKit
variable {w w' w1:World} {N g i k n:Nat} {oa:Option Addr} {t:TypeId} {c0 sv v v1 v2 v3 v4 v5 v6 v7:Value} {rs:List (List Value)} {r:List Value} {s:St}
def Qvx (f:FuncId):Prop:=∀ (s:St) (v:Value) (N:Nat) (w:World) (c:Int),StV w N v s→N≤w.heap.size→Qd s=0 →
 Calls prog f #[v,Bb c] w fun e w'=>e=.returned (Bb (ZO s c))∧Bd w w'
theorem Qr5: Qvx 106:=by
 intro s v N w c hv hN hw;obtain ⟨o1,c1,o2,c2,o3,c3,o4,c4,o5,c5,o6,c6,o7,c7,rfl,hm⟩:=hv.open;have HT:=hid (QmN hw);have HC:=hid (QbE hw);have HM:=hid hm;clear hv hm hw
 go_in
 go_upto_region 1 with fail
 refine JO ?_;intro w0 F hs;clear hs;have k3:=F.r0.k10.2.2.2.1
 by_cases h0:c<0
 ·have e0:decide (c<0)=true:=by simpa using h0
  have HL:=hid (QhH (s:=s) (.inl h0));go_wp2;go_ret;exact ⟨by rw [HL.out];rfl,F.b⟩
 have e0:decide (c<0)=false:=by simpa using h0
 by_cases h1:(s.clients.length:Int)≤c
 ·have e1:decide ((s.clients.length:Int)≤c)=true:=by simpa using h1
  have HL:=hid (QhH (s:=s) (.inr h1));go_wp2;go_ret;exact ⟨by rw [HL.out];rfl,F.b⟩
 have e1:decide ((s.clients.length:Int)≤c)=false:=by simpa using h1
 obtain ⟨k,rfl⟩:∃ k:Nat,c=(k:Int):=⟨c.toNat,by omega⟩
 have hlt':(k:Int)<(s.clients.length:Int):=by omega
 obtain ⟨x,hx⟩:∃ x,s.clients[k]?=some x:=⟨_,Bk (by omega)⟩
 obtain ⟨b,f,rfl,gx⟩:=(HM.out.below (F.b.mono hN)).clients.spot (by omega)
 obtain ⟨z,r,hr,cx⟩:=gx k x hx;obtain ⟨kv,rfl,m⟩:=hr;obtain ⟨ka,ma,rfl,-⟩:=m.shape;have x0:=cx 0 _ rfl;have x1:=cx 1 _ rfl;have x2:=cx 2 _ rfl;have x3:=cx 3 _ rfl;simp only [BI] at x0;have j:N≤w0.heap.size:=Bh hN F.b.size;have e:b<w0.heap.size:=Br z j;have HX:=hid (And.intro x0 (And.intro x1 (And.intro x2 x3)));have q:=hid (fun W (hb:Bd w0 W)=>Qot x s.time (.agg #[.string x.chain,Bb x.trust,.bool x.frozen,.slice ka x.known.length ma]) N W ⟨_,rfl,m.below (hb.mono j)⟩ (Bh j hb.size) (HC.out x (Bn hx)) HT.out)
 have HL:=hid (QlU hx);clear gx cx x0 x1 x2 x3 hx m h0 h1 HM HT HC
 go_upto_region 3 with fail
 have HF:=hid F;clear F k3 e0 e1;generalize x.known.length=xl at *;apply QC (by kernel_rfl) (fun W hb=>And.intro (HF.out.go hb).r0.k10 (And.intro ((hb.cell (p:=⟨b,f+k*4,none⟩) e).trans HX.out.1) (And.intro ((hb.cell (p:=⟨b,f+k*4+1,none⟩) e).trans HX.out.2.1) (And.intro ((hb.cell (p:=⟨b,f+k*4+2,none⟩) e).trans HX.out.2.2.1) ((hb.cell (p:=⟨b,f+k*4+3,none⟩) e).trans HX.out.2.2.2))))) (by kernel_rfl)
 ·intro σ;simp [Qj];exact rfl
 iterate 7 (apply RK.val rfl;· intro σ W hb hc ⟨hd,hu⟩;simp at hd hu;go_simp;exact rfl)
 apply RK.callV rfl
 ·intro σ W hb hc ⟨hd,hu⟩;simp at hd hu;go_simp;exact ⟨rfl,rfl⟩
 ·intro W hb hc;exact q.out W hb
 iterate 2 (apply RK.val rfl;· intro σ W hb hc ⟨hd,hu⟩;simp at hd hu;go_simp;exact rfl)
 intro σ W hb _;simp only [Jm,Bv,By,Nat.reduceAdd];intro hF;obtain ⟨-,-,-,-,-,-,-,-,-,e9,-⟩:=hF;have HB:=hid (HF.out.go hb).b;simp only [e9];clear hb e9
 cases d:YJ x s.time with
 | false =>
  rw [d] at HL;clear d;go_wp2;go_ret;exact ⟨by rw [HL.out];rfl,HB.out⟩
 | true =>
  rw [d] at HL;clear d;go_wp2;go_ret;exact ⟨by rw [HL.out];rfl,HB.out⟩
theorem Qlq (k:Int) (hk:0≤k∧k≤1000000000000) (w:World) (d:QL w):Calls prog 108 #[Bb k] w fun e w'=>∃ v,e=.returned v∧Jc w' w.heap.size v (Jr QaY [k.toNat])∧Bd w w':=by
 obtain ⟨w0,b⟩:∃ w0,w.alloc (.cells #[Bb k] 3)=w0:=⟨_,rfl⟩;have m:=bof b;have j:=hid m;have HK:=hid (QaN ⟨#[99,111,110,110]⟩ [k] w.heap.size 1 w0 (by decide) (by rw [← b];exact Row.new _ _ _) rfl (by decide) (fun n hn=>by simp at hn;omega) (d.below m))
 have q:=hid b;clear m b d
 go_in
 go_wp2_with fail
 rw [q.out];refine HK.out.mono ?_;rintro e w1 ⟨v,rfl,ho,hb⟩;have HO:=hid ho;have HB:=hid hb;clear ho hb;go_wp2;go_ret;exact ⟨v,rfl,HO.out.mono j.out.size,j.out.trans (HB.out.mono j.out.size)⟩
theorem Qlr (c:Cn) (h:Jf c=0) (w:World):Calls prog 109 #[.agg #[Bb c.state,Bb c.client,Bb c.oclient,Bb c.oconn]] w fun e w'=>∃ v,e=.returned v∧Jc w' w.heap.size v (QcU c)∧Bd w w':=by
 obtain ⟨w0,d⟩:∃ w0,w.alloc (.cells #[Bb c.state,Bb c.client,Bb c.oclient,Bb c.oconn] 82)=w0:=⟨_,rfl⟩;have z:=bof d;have D:=hid z;have b:=(show Row w0 w.heap.size 82 [Bb c.state,Bb c.client,Bb c.oclient,Bb c.oconn] by rw [← d];exact Row.new _ _ _)
 have k0:=b.cell 0;have k1:=b.cell 1;have k2:=b.cell 2;have k3:=b.cell 3;have L:=Zo h;have hwr:IntKind.i64.wrap (c.oconn+1)=c.oconn+1:=by rw [Ce];omega
 obtain ⟨w1,j⟩:∃ w1,w0.alloc (.cells #[Bb (c.state),Bb (c.client),Bb (c.oclient),Bb (c.oconn+1)] 3)=w1:=⟨_,rfl⟩;have A:=bof j;have q:=hgo D A
 have HC:=hid (Qbr [c.state,c.client,c.oclient,c.oconn+1] w0.heap.size 4 w1 (by rw [← j];exact Row.new _ _ _) rfl (by decide) (fun x hx=>by
  simp only [Bo,BG,BJ] at hx
  omega))
 have G:=hid d;have I:=hid j;clear b z A d j h L
 go_in
 go_upto_region 1 with fail
 rw [G.out]
 go_wp2_with fail
 rw [I.out];refine HC.out.mono ?_;rintro e w2 ⟨v,rfl,m,C⟩;have E:=hgo q C;have HO:=hid (m.mono q.out.size);clear C m;go_wp2;go_ret;exact ⟨_,rfl,HO.out,E.out⟩
theorem Qka (c:Ch) (D:c.ordered=true) (h:(1≤c.state∧c.state≤4)∧(0≤c.conn∧c.conn≤1000000000000)∧(-1≤c.ochan∧c.ochan≤1000000000000)) (w:World):Calls prog 112 #[.agg #[Bb c.state,.bool true,Bb c.conn,Bb c.ochan,Bb c.send,Bb c.recv,Bb c.ack]] w fun e w'=>∃ v,e=.returned v∧Jc w' w.heap.size v (QcQ c)∧Bd w w':=by
 obtain ⟨w0,d⟩:∃ w0,w.alloc (.cells #[Bb c.state,.bool true,Bb c.conn,Bb c.ochan,Bb c.send,Bb c.recv,Bb c.ack] 86)=w0:=⟨_,rfl⟩;have z:=bof d;have E:=hid z;have b:=(show Row w0 w.heap.size 86 [Bb c.state,.bool true,Bb c.conn,Bb c.ochan,Bb c.send,Bb c.recv,Bb c.ack] by rw [← d];exact Row.new _ _ _)
 have k0:=b.cell 0;have k1:=b.cell 1;have k2:=b.cell 2;have k3:=b.cell 3;have k4:=b.cell 4;have k5:=b.cell 5;have k6:=b.cell 6;have M:=h;have hwr:IntKind.i64.wrap (c.ochan+1)=c.ochan+1:=by rw [Ce];omega
 obtain ⟨w1,j⟩:∃ w1,w0.alloc (.cells #[Bb (c.state),Bb (1),Bb (c.conn),Bb (c.ochan+1)] 3)=w1:=⟨_,rfl⟩;have A:=bof j;have q:=hgo E A
 have HC:=hid (Qbr [c.state,1,c.conn,c.ochan+1] w0.heap.size 4 w1 (by rw [← j];exact Row.new _ _ _) rfl (by decide) (fun x hx=>by
  simp only [Bo,BG,BJ] at hx
  omega))
 have I:=hid d;have L:=hid j;clear b z A d j h M
 go_in
 go_upto_region 1 with fail
 rw [I.out]
 go_wp2_with fail
 rw [L.out];refine HC.out.mono ?_;rintro e w2 ⟨v,rfl,m,C⟩;have G:=hgo q C;have HO:=hid (m.mono q.out.size);clear C m;go_wp2;go_ret;exact ⟨_,rfl,by unfold QcQ;rw [D];exact HO.out,G.out⟩
theorem Qix (c:Ch) (D:c.ordered=false) (h:(1≤c.state∧c.state≤4)∧(0≤c.conn∧c.conn≤1000000000000)∧(-1≤c.ochan∧c.ochan≤1000000000000)) (w:World):Calls prog 112 #[.agg #[Bb c.state,.bool false,Bb c.conn,Bb c.ochan,Bb c.send,Bb c.recv,Bb c.ack]] w fun e w'=>∃ v,e=.returned v∧Jc w' w.heap.size v (QcQ c)∧Bd w w':=by
 obtain ⟨w0,d⟩:∃ w0,w.alloc (.cells #[Bb c.state,.bool false,Bb c.conn,Bb c.ochan,Bb c.send,Bb c.recv,Bb c.ack] 86)=w0:=⟨_,rfl⟩;have z:=bof d;have E:=hid z;have b:=(show Row w0 w.heap.size 86 [Bb c.state,.bool false,Bb c.conn,Bb c.ochan,Bb c.send,Bb c.recv,Bb c.ack] by rw [← d];exact Row.new _ _ _)
 have k0:=b.cell 0;have k1:=b.cell 1;have k2:=b.cell 2;have k3:=b.cell 3;have k4:=b.cell 4;have k5:=b.cell 5;have k6:=b.cell 6;have M:=h;have hwr:IntKind.i64.wrap (c.ochan+1)=c.ochan+1:=by rw [Ce];omega
 obtain ⟨w1,j⟩:∃ w1,w0.alloc (.cells #[Bb (c.state),Bb (0),Bb (c.conn),Bb (c.ochan+1)] 3)=w1:=⟨_,rfl⟩;have A:=bof j;have q:=hgo E A
 have HC:=hid (Qbr [c.state,0,c.conn,c.ochan+1] w0.heap.size 4 w1 (by rw [← j];exact Row.new _ _ _) rfl (by decide) (fun x hx=>by
  simp only [Bo,BG,BJ] at hx
  omega))
 have I:=hid d;have L:=hid j;clear b z A d j h M
 go_in
 go_upto_region 1 with fail
 rw [I.out]
 go_wp2_with fail
 rw [L.out];refine HC.out.mono ?_;rintro e w2 ⟨v,rfl,m,C⟩;have G:=hgo q C;have HO:=hid (m.mono q.out.size);clear C m;go_wp2;go_ret;exact ⟨_,rfl,by unfold QcQ;rw [D];exact HO.out,G.out⟩
theorem Qm3 (c:Ch) (h:(1≤c.state∧c.state≤4)∧(0≤c.conn∧c.conn≤1000000000000)∧(-1≤c.ochan∧c.ochan≤1000000000000)) (w:World):Calls prog 112 #[.agg #[Bb c.state,.bool c.ordered,Bb c.conn,Bb c.ochan,Bb c.send,Bb c.recv,Bb c.ack]] w fun e w'=>∃ v,e=.returned v∧Jc w' w.heap.size v (QcQ c)∧Bd w w':=by
 cases ho:c.ordered with
 | true=>exact Qka c ho h w
 | false=>exact Qix c ho h w
theorem Qlk (k:Int) (hk:0≤k∧k≤1000000000000) (w:World) (d:QL w):Calls prog 111 #[Bb k] w fun e w'=>∃ v,e=.returned v∧Jc w' w.heap.size v (Jr Qeg [k.toNat])∧Bd w w':=by
 obtain ⟨w0,b⟩:∃ w0,w.alloc (.cells #[Bb k] 3)=w0:=⟨_,rfl⟩;have m:=bof b;have j:=hid m;have HK:=hid (QaN ⟨#[99,104,97,110]⟩ [k] w.heap.size 1 w0 (by decide) (by rw [← b];exact Row.new _ _ _) rfl (by decide) (fun n hn=>by simp at hn;omega) (d.below m))
 have q:=hid b;clear m b d
 go_in
 go_wp2_with fail
 rw [q.out];refine HK.out.mono ?_;rintro e w1 ⟨v,rfl,ho,hb⟩;have HO:=hid ho;have HB:=hid hb;clear ho hb;go_wp2;go_ret;exact ⟨v,rfl,HO.out.mono j.out.size,j.out.trans (HB.out.mono j.out.size)⟩
theorem Qkl (q:Int) (hq:0≤q∧q≤1000000000000):(Jr QaY [q.toNat]).length≤140737488351232:=by
 have h:=Qag 12 q.toNat (by omega)
 simp [Jr,QaY];omega
theorem Qkm (o:Cn) (ho:Jf o=0):(QcU o).length≤140737488351232:=by
 have hok:=Zo ho;have:=(QgE [o.state,o.client,o.oclient,o.oconn+1] (by simp) (fun n hn=>by simp at hn;omega)).2
 unfold QcU;omega
theorem Qt.client {e:Nat} {l:List Cl} {x:Cl} (h:Qt ClR 4 w N (.slice oa n e) l) (hn:n=l.length) (hx:l[k]?=some x):∃ b f ka ma,oa=some ⟨b,f,.none⟩∧b<N∧w.rangeAt b (f+k*4) [.string x.chain,Bb x.trust,.bool x.frozen,.slice ka x.known.length ma]∧ClV w N (.agg #[.string x.chain,Bb x.trust,.bool x.frozen,.slice ka x.known.length ma]) x:=by
 have:=(Bm.1 hx).1;obtain ⟨b,f,rfl,gx⟩:=h.spot (by omega)
 obtain ⟨hb,r,⟨kc,rfl,d⟩,cx⟩:=gx k x hx;obtain ⟨ka,ma,rfl,-⟩:=d.shape;exact ⟨b,f,ka,ma,rfl,hb,cx,_,rfl,d⟩
theorem QoM (s:St) (v I:Value) (N:Nat) (w:World) (c q z:Int) (o:Cn) (h:Sh) (hv:StV w N v s) (hh:ShV w N I h) (hN:N≤w.heap.size) (d:s.fits) (E:h.fits) (A:Qi w) (m:QL w) (hc:0≤c∧c<(s.clients.length:Int)) (hq:0≤q∧q≤1000000000000) (ho:Jf o=0) (hz:JK s c h (Jr QaY [q.toNat]) (QcU o) z) :
  Calls prog 80 #[v,Bb c,Bb q,.agg #[Bb o.state,Bb o.client,Bb o.oclient,Bb o.oconn],I] w fun e w'=>e=.returned (Bb z)∧Bd w w':=by
 obtain ⟨k,rfl⟩:∃ k:Nat,c=(k:Int):=⟨c.toNat,by omega⟩
 have hlt:(k:Int)<(s.clients.length:Int):=by omega
 obtain ⟨x,hx⟩:∃ x,s.clients[k]?=some x:=⟨_,Bk (by omega)⟩
 unfold JK at hz;rw [QaM hx] at hz;have L:=hid (fun W (hW:Bd w W)=>Qlq q hq W (m.below hW))
 have O:=hid (Qlr o ho);obtain ⟨o1,c1,o2,c2,o3,c3,o4,c4,o5,c5,o6,c6,o7,c7,rfl,hm⟩:=hv.open;obtain ⟨q1,e1,q2,e2,q3,e3,r1,s1,r2,s2,r3,s3,r4,s4,r5,s5,r6,s6,rfl,G⟩:=hh.open;have M:=hid (fun W (hW:Bd w W) cv kv vv (h3:ClV W N cv x) h4 h5=>Qbc.z QeX x s.time h.height (Jr QaY [q.toNat]) (QcU o) h.prf cv kv vv _ W.heap.size W (A.past hW) (Bj _) (h3.mono (Bh hN hW.size)) h4 h5 ((G.below (hW.mono hN)).mono (Bh hN hW.size)) (d.2.1.2 x (Bn hx)) (Qkl q hq) (Qkm o ho) E.1 hz)
 have HX:=hid hx;have HM:=hid hm;clear hv hm hh G d E A m hz hx
 go_in
 go_upto_region 1 with fail
 refine JP ?_;intro w0 F hs;obtain ⟨b,f,ka,ma,rfl,hb,C,D⟩:=(HM.out.below (F.b.mono hN)).clients.client rfl HX.out;have T:=F.b.size;have HF:=hid F;have HC:=hid C;have HV:=hid (fun W (hx:Bd w0 W)=>D.below (hx.mono (Bh hN T)))
 have S:b<w0.heap.size:=by omega
 clear F hs C D;apply QC (by kernel_rfl) (fun W hb=>And.intro (HF.out.go hb).r0.cell (HF.out.go hb).r2.cell) (by kernel_rfl)
 ·intro σ;simp [Qj];exact rfl
 iterate 4 (apply RK.val rfl;· intro σ W hb hc ⟨hd,hu⟩;simp at hd hu;go_simp;exact rfl)
 apply RK.val rfl;· intro σ W hb hc ⟨hd,hu⟩;simp at hd;exact Jo rfl hd (fun j v hj=>(hb.cell S).trans (HC.out j v hj)) Qm
 iterate 5 (apply RK.val rfl;· intro σ W hb hc ⟨hd,hu⟩;simp at hd hu;go_simp;exact rfl)
 apply RK.callG (ByB (Jr QaY [q.toNat])) (ByB.stay _) rfl
 ·intro σ W hb hc ⟨hd,hu⟩;simp at hd hu;exact ⟨_,_,by go_simp,(L.out W (HF.out.go hb).b).mono fun e w' ⟨v,h1,h2,h3⟩=>⟨v,h1,h3,.of h2.bytes⟩⟩
 apply RK.val rfl;· intro σ W hb hc ⟨hd,hu⟩;exact Jo rfl rfl (HF.out.go hb).r1.range YW
 apply RK.callG (ByB (QcU o)) (ByB.stay _) rfl
 ·intro σ W hb hc ⟨hd,hu⟩;simp at hd hu;exact ⟨_,_,by go_simp,(O.out W).mono fun e w' ⟨v,h1,h2,h3⟩=>⟨v,h1,h3,.of h2.bytes⟩⟩
 iterate 2 (apply RK.val rfl;· intro σ W hb hc ⟨hd,hu⟩;simp at hd hu;go_simp;exact rfl)
 apply RK.callG _ (Yr.eq (Bb z)) rfl
 ·intro σ W hb hc ⟨hd,hu⟩;simp at hd hu
  have HD:=hid (M.out W (HF.out.go hb).b _ _ _ (HV.out W hb) (ByB.bytes hd.2.2.2.1) (ByB.bytes hd.2.2.2.2.1));exact ⟨_,_,by go_simp,HD.out.mono fun e w' ⟨h1,h2⟩=>⟨_,h1,h2,rfl⟩⟩
 iterate 1 (apply RK.val rfl;· intro σ W hb hc ⟨hd,hu⟩;simp at hd hu;go_simp;exact rfl)
 intro σ W hb _ hF;simp [Jm] at hF;go_simp;clear hF;have F:=HF.out.go hb;clear hb;go_wp2;go_ret;exact ⟨rfl,F.b⟩
theorem QiZ (s:St) (v:Value) (N:Nat) (w:World) (o:Cn) (hv:StV w N v s) (hN:N≤w.heap.size) (q:s.fits) (d:few s) :
  Calls prog 79 #[v,.agg #[Bb o.state,Bb o.client,Bb o.oclient,Bb o.oconn]] w fun e w'=>Bd w w'∧∃ v',e=.returned (.tuple #[v',Bb (Qla s (QbN s)),Bb (QbN s)])∧Qp N w.heap.size w' v' (QmR s (QbN s) o):=by
 have S:=hid (fun wx (hx:Bd w wx)=>Qls s v N wx (hv.below (hx.mono hN)) (Bh hN hx.size) q d)
 have hlc:s.conns.length≤100:=d.2.1;obtain ⟨o1,c1,o2,c2,o3,c3,o4,c4,o5,c5,o6,c6,o7,c7,rfl,hm⟩:=hv.open;clear hv hm q d
 go_in
 go_upto_region 1 with fail
 refine JP ?_;intro w0 F hs;have k4:=F.r0.k10.2.2.2.2.1
 by_cases h8:8≤s.conns.length
 ·have e8:decide ((8:Int)≤(s.conns.length:Int))=true:=by simp;omega
  have HM:=hid (show QbN s=5 from if_pos h8)
  go_wp2_with (refine F.store 2 rfl Qa (by simp) ?_;intro w1 F1 O1)
  refine J9 results79 rfl F1.r2 Qa rfl ⟨F1.b,_,by rw [HM.out];rfl,?_⟩
  rw [HM.out];exact Qg _ _ _
 ·have e8:decide ((8:Int)≤(s.conns.length:Int))=false:=by simp;omega
  have HM:=hid (show QbN s=0 from if_neg h8)
  go_wp2_with (refine F.load 0 rfl Qa ?_)
  refine (S.out _ F.b).mono ?_;rintro e w2 ⟨C,p1,d1,p2,d2,p3,d3,p4,d4,p5,d5,p6,d6,p7,d7,rfl,A⟩;have F2:=F.go C;have G:=F.r0.lt;have aD:=F.r2.lt;have hsz2:=C.size;have HL:=hid F.lts;have T:=hid A;clear C k4 A F hs
  go_upto_region 5 with (refine F2.store 0 rfl Qa (by simp) ?_;intro w3 F3 O3)
  have Y:=hid (T.out.only O3 hN G);have aC:=hid O3.size;have k4:=F3.r0.k10.2.2.2.2.1;obtain ⟨a0,a1,a2,a3⟩:=F3.r1.k4;clear O3
  go_wp2_with (at_builtin;refine Hid.out ?_)
  refine hid ?_;refine Qu0 ?_;intro w4 M m;have D:=hid (Y.out.below m);have O:=m.size;have aF:=aC.out;refine ZK QsH rfl _ _ rfl w0.heap.size _ (s.conns.map Q5) rfl D.out.conns _ _ (Q5 o) rfl (QgF M) (Qea (l:=[o])) (by simp;omega) (by omega) ?_
  intro g da w5 j E I z;have F5:=(F3.go m).past E (by omega) HL.out
  have L:(s.conns.map Q5).length+1=(s.conns ++ [o]).length:=by simp
  rw [L] at j ⊢;have hrow':Jy 82 Q5 4 w5 w0.heap.size (.slice (some ⟨g,0,none⟩) (s.conns ++ [o]).length da) (s.conns ++ [o]):=by have:=j;rw [← List.map_singleton,← Cc] at this;exact this
  have aA:=hid (D.out.putConns I hrow' (fun b e=>by obtain rfl:g=b:=(by simpa [Value.ownBlock] using e);exact z.imp id (fun h=>by omega)))
  clear j hrow' E I z m aF O M k4 a0 a1 a2 a3 L;generalize aE:(s.conns ++ [o]).length=ln at *;clear aE;have g4:=F5.r0.k10.2.2.2.2.1;have z4:=F5.r0.frozen 4
  go_upto_region 6 with fail
  refine F5.cell 0 rfl ?_;intro w6 F6 O6;have aB:=hid (aA.out.only O6 hN G);clear g4 z4 O6
  go_wp2_with (first | refine F6.load 0 rfl Qa ?_ | refine F6.store 2 rfl Qa (by simp) ?_;intro w7 F7 O7)
  refine J9 results79 rfl F7.r2 Qa rfl ⟨F7.b,_,by rw [HM.out];rfl,?_⟩
  rw [HM.out];exact ((aB.out.only O7 (by omega) aD).lower (by omega)).holds
theorem QlZ (ps:List (List Value)) (i:Nat) (x0 x1 x2:Value) (base vb:Nat) (v:Value) (w:World) (h:Qf 90 3 w base v ps) (hb:base≤w.heap.size) (hv:Row w vb 90 [x0,x1,x2]) (h1:x0.oneCell'=true∧x1.oneCell'=true∧x2.oneCell'=true)
  (d:∀ g,v.ownBlock=some g→vb≠g) (hi:i≤ps.length) (hl:ps.length≤1000) :
  Calls prog 154 #[v,Bb (i:Int),.slice (some ⟨vb,0,none⟩) 1 1] w fun e w'=>w.grownBy w' v.ownBlock∧∃ v',e=.returned v'∧Qf 90 3 w' base v' (QcZ ps i [x0,x1,x2])∧∀ b,v'.ownBlock=some b→v.ownBlock=some b∨w.heap.size≤b :=
 QoH.2.1 QnR Qso.2.1 ps i _ base vb v w h hb hv (fun r hr=>by obtain rfl:=BO.1 hr;exact ⟨rfl,by simpa using h1⟩) d hi hl
theorem Row.k11 {b:Value} (h:Row w g t [v,v4,v5,v6,v2,v3,v7,v1,sv,c0,b]):w.cell? ⟨g,0,none⟩=some v∧w.cell? ⟨g,1,none⟩=some v4∧w.cell? ⟨g,2,none⟩=some v5∧w.cell? ⟨g,3,none⟩=some v6∧w.cell? ⟨g,4,none⟩=some v2∧w.cell? ⟨g,5,none⟩=some v3∧w.cell? ⟨g,6,none⟩=some v7∧w.cell? ⟨g,7,none⟩=some v1∧w.cell? ⟨g,8,none⟩=some sv∧w.cell? ⟨g,9,none⟩=some c0∧w.cell? ⟨g,10,none⟩=some b :=
 ⟨h.cell 0,h.cell 1,h.cell 2,h.cell 3,h.cell 4,h.cell 5,h.cell 6,h.cell 7,h.cell 8,h.cell 9,h.cell 10⟩
theorem Qk: Qw 173 11:=⟨⟨_,underlying173,rfl⟩,by kernel_rfl⟩
theorem Qh: Qw 51 5:=⟨⟨_,underlying51,rfl⟩,by kernel_rfl⟩
theorem QlG (h:Bd w w1) (r:Option Nat):w.grownBy w1 r:=⟨h.os,h.tape,h.output,h.size,fun k hk _=>h.block k hk⟩
theorem MkE.set {l:List Mk} (h:MkE w rs l) {x:Mk} (hr:MkR w w.heap.size r x):MkE w (rs.set i r) (l.set i x):=by grind [MkE]
theorem MkE.ins {l:List Mk} (h:MkE w rs l) {x:Mk} (hi:i≤l.length) (hr:MkR w w.heap.size r x):MkE w (QcZ rs i r) (l.take i ++ x :: l.drop i):=by grind [MkE,QcZ]
theorem MkE.del {l:List Mk} (h:MkE w rs l) (hi:i<l.length):MkE w (rs.take i ++ rs.drop (i+1)) (l.take i ++ l.drop (i+1)):=by grind [MkE]
theorem Qf.at {base:Nat} {c:Nat} (h:Qf t N w base (.slice oa n c) rs) (hi:rs[i]?=some r) :
  ∃ g,oa=some ⟨g,0,none⟩∧base≤g∧g<w.heap.size∧(∀ (j:Nat) y,r[j]?=some y→w.cell? ⟨g,i*N+j,none⟩=some y)∧∀ o,w.frozen? ⟨g,o,none⟩=false:=by
 have z:=h;have hil:=(Bm.1 hi).1;obtain ⟨h4,_,h5⟩:=h
 rcases h5 with ⟨h6,h7⟩ | ⟨g,cap,q,h6,h7,h8,h9⟩
 ·omega
 ·simp only [DH] at h6
  obtain ⟨rfl,rfl,rfl⟩:=h6;have d:Row w g t q.toList:=by unfold Row;simpa using h8
  have m:=z.recs;obtain ⟨b,off,e,hc⟩:=m.spot (by omega)
  simp only [C4,Dx] at e;obtain ⟨rfl,rfl,-⟩:=e;refine ⟨g,rfl,h7,d.lt,fun j y hy=>?_,fun o=>d.frozen o⟩
  have:=(hc i r hi).2 j y hy;rw [Bq] at this;exact this
theorem QhO (s:St) (v M:Value) (N:Nat) (w:World) (i st z:Int) (own:Cn) (h:Sh) (hv:StV w N v s) (hh:ShV w N M h) (hN:N≤w.heap.size) (m:s.fits) (aA:h.fits) (I:Qi w) (E:QL w) (hw:Qd s=0)
  (hi:0≤i∧i<(s.conns.length:Int)) (hc:0≤own.client∧own.client<(s.clients.length:Int)) (hq:0≤own.oconn∧own.oconn≤1000000000000) (ho:0≤own.oclient∧own.oclient≤1000000000000) (hst:1≤st∧st≤3) (hz:JK s own.client h (Jr QaY [own.oconn.toNat]) (QcU ⟨st,own.oclient,own.client,i⟩) z) :
  Calls prog 82 #[v,Bb i,.agg #[Bb own.state,Bb own.client,Bb own.oclient,Bb own.oconn],Bb st,M] w fun e w'=>Bd w w'∧∃ v',e=.returned (.tuple #[v',Bb z])∧Qp N w.heap.size w' v' (Qmd s z i ⟨3,own.client,own.oclient,own.oconn⟩):=by
 have d:=QF hw;have hlc:s.conns.length≤100:=d.2.1;have aB:=hid (fun wx (hx:Bd w wx)=>Qls s v N wx (hv.below (hx.mono hN)) (Bh hN hx.size) m d)
 have Y:Jf ⟨st,own.oclient,own.client,i⟩=0:=by
  have:=d.1
  grind [Jf,Q6]
 have aC:=hid (fun wx (hx:Bd w wx)=>QoM s v M N wx own.client own.oconn z ⟨st,own.oclient,own.client,i⟩ h (hv.below (hx.mono hN)) (hh.below (hx.mono hN)) (Bh hN hx.size) m aA (I.past hx) (E.below hx) hc hq Y hz)
 obtain ⟨k,rfl⟩:∃ k:Nat,i=(k:Int):=⟨i.toNat,by omega⟩
 obtain ⟨x,hx⟩:∃ x,s.conns[k]?=some x:=⟨_,Bk (by omega)⟩
 have HX:=hid hx;obtain ⟨o1,c1,o2,c2,o3,c3,o4,c4,o5,c5,o6,c6,o7,c7,rfl,hm⟩:=hv.open;obtain ⟨q1,e1,q2,e2,q3,e3,r1,s1,r2,s2,r3,s3,r4,s4,r5,s5,r6,s6,rfl,-⟩:=hh.open;clear hv hm hh m aA I E hw d Y hz hx
 go_in
 go_upto_region 1 with fail
 refine Qah ?_;intro w0 F hs;obtain ⟨b0,b1,b2,b3⟩:=F.r1.k4
 go_upto_region 2 with fail
 refine F.box ?_;intro w1 F1 aL aH;clear b0 b1 b2 b3 F aH hs aL;obtain ⟨b0,b1,b2,b3⟩:=F1.r1.k4
 go_wp2_with (first | refine F1.load 0 rfl Qa ?_ | refine F1.load 2 rfl QN ?_ | refine F1.load 4 rfl YW ?_)
 refine (aC.out _ F1.b).mono ?_;rintro e w2 ⟨rfl,S⟩;have F2:=F1.go S;clear b0 b1 b2 b3 F1 S
 by_cases hz:z=0
 ·subst hz
  have a0:=F2.r1.k4.1;have z0:=F2.r1.frozen 0
  go_upto_region 6 with fail
  refine F2.cell 1 rfl ?_;intro w3 F3 O3;clear a0 z0 O3 F2
  go_wp2_with (refine F3.load 0 rfl Qa ?_)
  refine (aB.out _ F3.b).mono ?_;rintro e w4 ⟨T,p1,d1,p2,d2,p3,d3,p4,d4,p5,d5,p6,d6,p7,d7,rfl,D⟩;have F4:=F3.go T;have aI:=F3.r0.lt;have aJ:=F3.r3.lt;have HL:=hid F3.lts;have aE:=hid D;clear T D
  go_upto_region 7 with (refine F4.store 0 rfl Qa (by simp) ?_;intro w5 F5 O5)
  have C:=aE.out.only O5 hN aI;obtain ⟨g,rfl,aK,hgl,j,A⟩:=Qf.at C.conns (r:=Q5 x) (i:=k) (by rw [Bt,HX.out];rfl)
  have f0:=j 0 _ rfl;have z0:=A (k*4);have f1:=j 1 _ rfl;have z1:=A (k*4+1);have f2:=j 2 _ rfl;have z2:=A (k*4+2);have f3:=j 3 _ rfl;have z3:=A (k*4+3);simp only [BI] at f0;have hlt:(k:Int)<(s.conns.length:Int):=by omega
  have k4:=F5.r0.k10.2.2.2.2.1;obtain ⟨a0,a1,a2,a3⟩:=F5.r1.k4
  have G:Jy 82 Q5 4 (w5.setCells g (k*4) (Q5 ⟨3,own.client,own.oclient,own.oconn⟩)) w3.heap.size (.slice (some ⟨g,0,none⟩) s.conns.length d2) (s.conns.set k ⟨3,own.client,own.oclient,own.oconn⟩):=by
   have:=Qf.put C.conns (i:=k) (r:=Q5 ⟨3,own.client,own.oclient,own.oconn⟩) (by rw [Bp];omega) (Qea (l:=[⟨3,own.client,own.oclient,own.oconn⟩]) _ (by simp))
   rw [← De] at this;exact this
  have L:=C.putConns (Q3 w5 g (k*4) (Q5 ⟨3,own.client,own.oclient,own.oconn⟩)) G (fun b e=>.inl e)
  have F6:=F5.past (JN (Bj g) (Q5 ⟨3,own.client,own.oclient,own.oconn⟩) (k*4) w5 (Bi _ _)) (by have:=F3.sz;omega) (fun q hq=>Br (HL.out q hq) aK)
  obtain ⟨w6,O⟩:∃ w6,w5.setCells g (k*4) (Q5 ⟨3,own.client,own.oclient,own.oconn⟩)=w6:=⟨_,rfl⟩;rw [O] at L F6;have aF:=hid L;have aG:=hid O;have hz3:=F3.sz;clear C L G j A O O5 F5 F4 F3
  go_upto_region 8 with fail
  refine Qab aG.out ?_;clear k4 a0 a1 a2 a3 f0 z0 f1 z1 f2 z2 f3 z3
  go_wp2_with (first | refine F6.load 0 rfl Qa ?_ | refine F6.store 3 rfl Qa (by simp) ?_;intro w7 F7 O7)
  refine Ql results82 rfl F7.r3 Qa rfl ⟨F7.b,_,rfl,?_⟩;exact ((aF.out.only O7 (by omega) aJ).lower (by omega)).holds
 ·have e0:(z != 0)=true:=by simpa using hz
  have aD:=hid (show Qmd s z (k:Int) ⟨3,own.client,own.oclient,own.oconn⟩=St.none from if_neg hz);clear hz
  go_wp2_with (refine F2.store 3 rfl Qa (by simp) ?_;intro wz FZ OZ)
  refine Ql results82 rfl FZ.r3 Qa rfl ⟨FZ.b,_,rfl,?_⟩;rw [aD.out];exact Qg _ _ _
theorem QgY (o:ByteArray) (w:World):Calls prog 116 #[.string o] w fun e w'=>e=.returned (.bool (ZR o))∧Bd w w':=by
 have HP:=hid (show ∀ W,Calls prog 123 #[.string o,.string ⟨#[35]⟩] W fun e w'=>e=.returned (.bool (ZR o))∧Bd W w' from fun W=>Qem o ⟨#[35]⟩ W)
 go_in
 go_wp2_with fail
 refine (HP.out w).mono ?_;rintro e w1 ⟨rfl,hb⟩;have HB:=hid hb;clear hb;go_wp2;go_ret;exact ⟨rfl,HB.out⟩
def Qv0 (ss:List ByteArray) (i:Int):Prop:=(i = -1∧ss.any ZR=false)∨(0≤i∧ss.any ZR=true)
theorem QiH (ss:List ByteArray) (g n:Nat) (w:World) (hr:Row w g 9 (ss.map Value.string)) (hn:n=ss.length) (hl:n≤10) :
  Calls prog 151 #[.slice (some ⟨g,0,none⟩) n n,.func (.func 116) #[] #[]] w fun e w'=>Bd w w'∧∃ i:Int,e=.returned (Bb i)∧Qv0 ss i:=by
 have q:=hid hr;have HN:=hid hn;have A:=hr.lt;clear hr hn
 go_in
 go_wp2_with fail
 go_loopw [5,8] (fun _ s8 wr=>∃ k:Nat,k≤n∧s8=Bb (k:Int)∧Hid (Bd w wr∧∀ x∈ss.take k,ZR x=false)) (fun _ s8 _=>n-(intOf s8).toNat)
 case atStart=>exact ⟨0,BH _,rfl,hid ⟨Bi _ _,by simp⟩⟩
 case round =>
  obtain ⟨k,hk,rfl,HR⟩:=hrel;have j:=HR.out.1.size
  by_cases C:k<n
  ·have hlt':(k:Int)<(n:Int):=by omega
   obtain ⟨x,hx⟩:∃ x,ss[k]?=some x:=⟨ss[k]'(by rw [← HN.out];exact C),Bk _⟩
   have f0:=(HR.out.1.cell (p:=⟨g,k,none⟩) A).trans ((q.out.cell k).trans (show (ss.map Value.string)[k]?=some (.string x) by simp [hx]))
   have HF:=hid (QgY x wr);have HX:=hid hx;clear hx
   cases b:ZR x with
   | true =>
    have HE:=hid b;rw [b] at HF;clear b
    go_wp2_with fail
    refine HF.out.mono ?_;rintro e w5 ⟨rfl,d⟩;have m:=hid (HR.out.1.trans (d.mono j));clear d;go_wp2;go_ret;exact ⟨m.out,_,rfl,.inr ⟨by omega,List.any_eq_true.2 ⟨x,Bn HX.out,HE.out⟩⟩⟩
   | false =>
    have HE:=hid b;rw [b] at HF
    have z:=hid (show ∀ y∈ss.take (k+1),ZR y=false from fun y hy=>by
     rw [CU,HX.out] at hy
     rcases Bz.1 hy with hy | hy
     ·exact HR.out.2 y hy
     ·obtain rfl:y=x:=by simpa using hy
      exact HE.out)
    clear b
    go_wp2_with fail
    refine HF.out.mono ?_;rintro e w5 ⟨rfl,d⟩;have m:=hid (HR.out.1.trans (d.mono j));clear d;go_wp2;go_roundw
    case rel=>exact ⟨k+1,by omega,by go_num,hid ⟨m.out,z.out⟩⟩
    case measure=>simp [intOf];omega
  ·have hge:decide ((k:Int)<(n:Int))=false:=by simp;omega
   go_wp2;go_ret;refine ⟨HR.out.1,_,rfl,.inl ⟨rfl,List.any_eq_false.2 fun x hx=>?_⟩⟩
   rw [HR.out.2 x (by rw [Bw (by rw [← HN.out];omega)];exact hx)]
   exact Bool.false_ne_true
theorem Qlc (ss:List ByteArray) (g n:Nat) (w:World) (hr:Row w g 9 (ss.map Value.string)) (hn:n=ss.length) (hl:n≤10) :
  Calls prog 115 #[.slice (some ⟨g,0,none⟩) n n,.func (.func 116) #[] #[]] w fun e w'=>e=.returned (.bool (ss.any ZR))∧Bd w w':=by
 have HC:=hid (QiH ss g n w hr hn hl);clear hr hn
 go_in
 go_wp2_with fail
 refine HC.out.mono ?_;rintro e w1 ⟨hb,i,rfl,hi⟩;have HB:=hid hb
 have HI:=hid (show decide (0≤i)=ss.any ZR by
  rcases hi with ⟨rfl,h⟩ | ⟨h1,h⟩
  ·rw [h];rfl
  ·rw [h];simpa using h1)
 clear hb hi;go_wp2;go_ret;exact ⟨by rw [← HI.out];rfl,HB.out⟩
theorem QoW (t:Tr) (ss:List ByteArray) (g n:Nat) (w:World) (ht:t.fits) (hr:Row w g 9 (ss.map Value.string)) (hn:n=ss.length) (hl:n≤10) :
  Calls prog 89 #[.agg #[.string t.denom,.int .u64 (t.amount:Int),.string t.sender,.string t.reader],.slice (some ⟨g,0,none⟩) n n] w fun e w'=>e=.returned (Bb (trN t ss))∧Bd w w':=by
 have E:=hid (fun W=>Qg0 t W ht)
 have I:=hid (fun (sv:Value) (W:World) (hb:Bytes W W.heap.size sv (QG t))=>QfK (QG t) sv W.heap.size W hb (Bj _) (by have:=Qg1 t;omega))
 have G:=hid (fun W (hb:Bd w W)=>Qlc ss g n W (hr.below hb hr.lt) hn hl)
 have HE:=hid (show trN t ss=if Jj (QG t)≠0 then Jj (QG t) else if ss.any ZR=true then 7 else 0 from rfl)
 clear hr hn ht
 go_in
 go_upto_region 1 with fail
 refine JO ?_;intro w0 F0 hs;clear hs;obtain ⟨k0,k1,k2,k3⟩:=F0.r0.k4
 go_wp2_with fail
 refine (E.out _).mono ?_;rintro e w1 ⟨A,v1,rfl,q⟩;have F1:=F0.go A;have z:=hid q;obtain ⟨o1,c1,rfl,-⟩:=q.shape;clear A q k0 k1 k2 k3 F0
 go_wp2_with fail
 refine (I.out _ w1 z.out).mono ?_;rintro e w2 ⟨rfl,C⟩;have F2:=F1.go C;clear C F1 z
 by_cases hz:Jj (QG t)=0
 ·rw [hz] at HE ⊢
  have d:=hid (HE.out.trans (if_neg (by simp)))
  clear hz HE;unfold trV
  go_upto_region 2 with fail
  refine F2.box ?_;intro w3 F3 m j;clear m j F2
  go_wp2_with fail
  refine (G.out _ F3.b).mono ?_;rintro e w4 ⟨rfl,D⟩;have HB:=hid (F3.go D).b;clear D F3
  cases ha:ss.any ZR with
  | true =>
   rw [ha] at d;clear ha;go_wp2;go_ret;exact ⟨by rw [d.out];rfl,HB.out⟩
  | false =>
   rw [ha] at d;clear ha;go_wp2;go_ret;exact ⟨by rw [d.out];rfl,HB.out⟩
 ·have d:=hid (HE.out.trans (if_pos hz))
  have hz':(Jj (QG t) == 0)=false:=by simpa using hz
  generalize Jj (QG t)=pe at *;have hd:decide (pe=0)=false:=by simpa using hz
  clear HE;unfold trV
  go_upto_region 2 with fail
  refine F2.box ?_;intro w3 F3 m j;clear m j F2;have HB:=hid F3.b;clear F3;go_wp2;go_ret;exact ⟨by rw [d.out];rfl,HB.out⟩
theorem Zs (b:Bg):(QS b).amount<18446744073709551616∧(QS b).denom.size≤140737488351232:=by
 unfold QS Qci
 split
 ·rename_i t h
  split at h
  ·rename_i m hm
   have d:=(QuS b m hm).2.2;unfold Qdw at h
   split at h
   ·split at h
    ·split at h
     ·cases h
     ·rename_i hw
      split at h
      ·cases h
      ·injection h with h
       subst h;rename_i p0 p1 p2 p3 _ _;have h1:=(d p1 (by simp)).1
       simp [QH] at hw;exact ⟨by unfold Pc.ok at h1;omega,by have:=hw.1;show (Qba p0.b).size≤_;omega⟩
    ·cases h
   ·cases h
  ·cases h
 ·exact ⟨by show 0<_;omega,by show 0≤_;omega⟩
theorem Qp.purses {base base':Nat} {x z:Value} {l:List Pu} (h:Qp N base w (.agg #[x,v,z,v1,v2,v3,v4,v5,v6,v7]) s) (hb:Bd w w') (hl:J0 base' w' sv l) (m:base≤base'):Qp N base w' (.agg #[x,v,z,v1,v2,v3,v4,v5,v6,sv]) { s with purses:=l }:=by
 refine ⟨fun b hF=>hF.2,fun w2 j hk=>?_⟩
 obtain ⟨u1,u2,u3,u4,u5,u6,u7,e,hm⟩:=((h.below hb).on j fun b q hF=>hk b ⟨hF,q⟩).now
 have h3:J0 base' w2 sv l:=Qf.keep hl fun k d=>hk k ⟨.inr (Bh m (Qf.own hl k d).1),(Qf.own hl k d).2⟩
 simp only [BX,BP,BM,BQ] at e;obtain ⟨rfl,rfl,rfl,rfl,rfl,rfl,rfl,rfl,rfl,rfl⟩:=e;exact ⟨_,_,_,_,_,_,_,rfl,Qcn hm (Bj _) h3.now⟩
theorem Qle (s:St) (p:Pk) (k:Nat) (v pv:Value) (N base M:Nat) (w:World) (hv:Qp N base w v s) (hp:PkV w M pv p) (hM:M≤w.heap.size) (C:base≤w.heap.size) (hU:s.purses.length≤60∧Q1 s.purses) (T:p.data.length≤140737488351232) (hk:p.src=(k:Int)) (G:k≤9223372036854775807) (j:QL w) :
  Calls prog 97 #[v,pv] w fun e w'=>Bd w w'∧∃ v',e=.returned (.tuple #[v',Bb (ZI s p)])∧Qp N base w' v' (Ya s p):=by
 obtain ⟨od,cd,rfl,hd⟩:=hp.open;obtain ⟨o1,c1,o2,c2,o3,c3,o4,c4,o5,c5,o6,c6,o7,c7,rfl,hm⟩:=hv.now.open;have A:=hid (fun W (hb:Bd w W)=>QfK p.data (.slice od p.data.length cd) M W (hd.below (hb.mono hM)) (Bh hM hb.size) (by omega))
 have z:=hid (show ∀ W,Bd w W→Calls prog 134 #[.slice o7 s.purses.length c7,Bb p.src,.agg #[.string (QS p.data).denom,.int .u64 ((QS p.data).amount:Int),.string (QS p.data).sender,.string (QS p.data).reader]] W fun e w'=>Bd W w'∧∃ v,e=.returned (.tuple #[v,Bb (QdG s.purses k (QS p.data))])∧J0 W.heap.size w' v (QeC s.purses k (QS p.data)) from fun W hb=>by
  rw [hk]
  exact Qq9 s.purses k (QS p.data) _ w.heap.size W (j.below hb) hb.size (hm.below hb).purses hU.2 hU.1 (Zs p.data).1 G)
 have HE:=hid (show ZI s p=if Jj p.data≠0 then 0 else QdG s.purses k (QS p.data) by unfold ZI;rw [hk];rfl)
 have d:=hid (show Ya s p=if Jj p.data≠0 then s else if QdG s.purses k (QS p.data)=0 then { s with purses:=QeC s.purses k (QS p.data) } else St.none by unfold Ya;rw [hk];rfl)
 have HV:=hid hv;have I:=hid C;clear hp hm hv hU T hk G j hd hM C;generalize p.data.length=dl,s.purses.length=pl,s.clients.length=n1,s.conns.length=n2,s.chans.length=n3,s.sent.length=n4,s.got.length=n5,s.acks.length=n6 at *;generalize QS p.data=t at *
 go_in
 go_upto_region 1 with fail
 refine JP ?_;intro w0 F0 hs;clear hs;have p3:=F0.r1.k5.2.2.2.1
 go_wp2_with fail
 refine (A.out _ F0.b).mono ?_;rintro e w1 ⟨rfl,D⟩;have F1:=F0.go D;clear D F0 A p3
 by_cases hz:Jj p.data=0
 ·rw [hz] at HE d ⊢
  rw [if_neg (by simp)] at HE d
  clear hz;unfold trV
  go_upto_region 2 with fail
  refine F1.box ?_;intro w2 F2 q m;clear q m F1;have k9:=F2.r0.k10.2.2.2.2.2.2.2.2.2;have p0:=F2.r1.k5.1;obtain ⟨a0,a1,a2,a3⟩:=F2.r3.k4
  go_wp2_with fail
  refine (z.out _ F2.b).mono ?_;rintro e w3 ⟨E,uv,rfl,hu⟩;have F3:=F2.go E;have HU:=hid hu;have l2:=F2.r2.lt;have O:=hid F2.b.size;obtain ⟨ou,cu,rfl,-⟩:=hu.shape;clear E hu k9 p0 a0 a1 a2 a3 F2 z;generalize QdG s.purses k t=be at *;generalize hL:QeC s.purses k t=L at *;generalize L.length=LL at *;have k9:=F3.r0.k10.2.2.2.2.2.2.2.2.2;have z9:=F3.r0.frozen 9
  go_upto_region 5 with fail
  refine F3.cell 0 rfl ?_;intro w4 F4 O4;have S:=hid (HU.out.only O4 (by omega))
  clear k9 z9 O4 HU F3
  by_cases hz:be=0
  ·subst hz
   rw [if_pos rfl] at d
   go_wp2_with (first | refine F4.load 0 rfl Qa ?_ | (refine F4.store 2 rfl Qa (by simp) ?_;intro w5 F5 O5))
   refine Ql results97 rfl F5.r2 Qa rfl ⟨F5.b,_,by rw [HE.out];rfl,?_⟩
   rw [d.out];exact HV.out.purses F5.b (S.out.only O5 l2) (Bh I.out O.out)
  ·rw [if_neg hz] at d
   have Y:(be != 0)=true:=by simpa using hz
   go_wp2_with (refine F4.store 2 rfl Qa (by simp) ?_;intro w5 F5 O5)
   refine Ql results97 rfl F5.r2 Qa rfl ⟨F5.b,_,by rw [HE.out];rfl,?_⟩
   rw [d.out];exact Qg _ _ _
 ·rw [if_pos hz] at HE d
  have Y:(Jj p.data != 0)=true:=by simpa using hz
  clear hz;generalize Jj p.data=pe at *;unfold trV
  go_upto_region 2 with fail
  refine F1.box ?_;intro w2 F2 q m;clear q m F1
  go_wp2_with (first | refine F2.load 0 rfl Qa ?_ | (refine F2.store 2 rfl Qa (by simp) ?_;intro w5 F5 O5))
  refine Ql results97 rfl F5.r2 Qa rfl ⟨F5.b,_,by rw [HE.out];rfl,?_⟩
  rw [d.out];exact HV.out.below F5.b
def Qi8 (l:List Pu) (p:Pk):Int:=if Jj p.data≠0 then Jj p.data else if ZR (QS p.data).reader=true then 7 else Qbx l p.dst p.src (QS p.data)
theorem Qrm (l:List Pu) (p:Pk) (sv pv:Value) (N:Nat) (w:World) (hN:N≤w.heap.size) (hl:Qt PuR 3 w N sv l) (hp:PkV w N pv p) (hU:l.length≤60∧Q1 l) (L:p.data.length≤140737488351232) (hi:(-9223372036854775808≤p.dst∧p.dst≤9223372036854775807)∧-9223372036854775808≤p.src∧p.src≤9223372036854775807) (j:QL w) :
  Calls prog 93 #[sv,pv] w fun e w'=>Bd w w'∧∃ v',e=.returned (.tuple #[v',Bb (Qi8 l p)])∧(Qi8 l p=0→J0 w.heap.size w' v' (Qb4 l p.dst p.src (QS p.data)))∧∃ o n c,v'=.slice o n c:=by
 obtain ⟨od,cd,rfl,hd⟩:=hp.open;obtain ⟨ol,cl,rfl,-⟩:=hl.shape;have z:=hid (fun W (hb:Bd w W)=>QfK p.data (.slice od p.data.length cd) N W (hd.below (hb.mono hN)) (Bh hN hb.size) (by omega))
 have I:=hid (fun W (hb:Bd w W)=>Qpx l p.dst p.src (QS p.data) (.slice ol l.length cl) N W (j.below hb) (Bh hN hb.size) (hl.below PuR.stays (hb.mono hN)) hU.2 hU.1 (Zs p.data).1 hi.1 hi.2 (Zs p.data).2)
 have E:=hid (fun W=>QgY (QS p.data).reader W)
 have HE:=hid (show Qi8 l p=if Jj p.data≠0 then Jj p.data else if ZR (QS p.data).reader=true then 7 else Qbx l p.dst p.src (QS p.data) from rfl)
 clear hp hl hU L hi j hd hN;generalize p.data.length=dl,l.length=ll at *;generalize QS p.data=t at *
 go_in
 go_upto_region 1 with fail
 refine JO ?_;intro w0 F0 hs;clear hs;have p3:=F0.r0.k5.2.2.2.1
 go_wp2_with fail
 refine (z.out _ F0.b).mono ?_;rintro e w1 ⟨rfl,A⟩;have F1:=F0.go A;clear A F0 z p3
 by_cases hz:Jj p.data=0
 ·rw [hz] at HE ⊢
  rw [if_neg (by simp)] at HE
  clear hz;unfold trV
  go_upto_region 2 with fail
  refine F1.box ?_;intro w2 F2 q m;clear q m F1;have a3:=F2.r1.k4.2.2.2
  go_wp2_with fail
  refine (E.out _).mono ?_;rintro e w3 ⟨rfl,C⟩;have F3:=F2.go C;clear C F2 a3
  cases d:ZR t.reader with
  | true =>
   rw [d,if_pos rfl] at HE;clear d;have HB:=hid F3.b;go_wp2;go_ret2;exact ⟨HB.out,_,by rw [HE.out];rfl,fun h=>absurd (HE.out.symm.trans h) (by decide),none,0,0,rfl⟩
  | false =>
   rw [d,if_neg (by simp)] at HE
   clear d;have p0:=F3.r0.k5.1;have p1:=F3.r0.k5.2.1;obtain ⟨a0,a1,a2,a3⟩:=F3.r1.k4
   go_wp2_with fail
   refine (I.out _ F3.b).mono ?_;rintro e w4 ⟨D,uv,rfl,hu⟩;have HB:=hid (F3.go D).b;have G:=hid F3.b.size;have HU:=hid hu;obtain ⟨ou,cu,rfl,-⟩:=hu.shape;clear D hu F3 p0 p1 a0 a1 a2 a3;generalize Qbx l p.dst p.src t=ce at *;go_wp2;go_ret2;exact ⟨HB.out,_,by rw [HE.out];rfl,fun _=>HU.out.down G.out,_,_,_,rfl⟩
 ·rw [if_pos hz] at HE
  have HZ:=hid hz;have hzb:(Jj p.data != 0)=true:=by simpa using hz
  clear hz;generalize Jj p.data=pe at *;unfold trV
  go_upto_region 2 with fail
  refine F1.box ?_;intro w2 F2 q m;have HB:=hid F2.b;clear q m F1 F2;go_wp2;go_ret2;exact ⟨HB.out,_,by rw [HE.out];rfl,fun h=>absurd (HE.out.symm.trans h) HZ.out,none,0,0,rfl⟩
end Go.Proofs.YtnedafiokmjkkaaGreatDoor
