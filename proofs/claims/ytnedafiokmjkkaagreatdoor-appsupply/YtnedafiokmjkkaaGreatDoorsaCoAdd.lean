/- A connection more, in a copy. -/
import Derived.Test.YtnedafiokmjkkaaGreatDoorsaStWrong
import Derived.Laws.RangeString
namespace Go.Proofs.YtnedafiokmjkkaaGreatDoor
open Tryz
set_option maxRecDepth 1000000
set_option maxHeartbeats 8000000
open Go.RowKit
variable {N g k n:Nat} {w w':World} {v v1 v2 v3 v4 v5 v6 v7:Value} {s:St} {oa:Option Addr}
theorem Qp.only {base:Nat} {t:St} (h:Qp N base w v t) (O:JJ g w w') (h1:N≤g) (h2:g<base):Qp N base w' v t :=
 h.on O.below (fun b _ hb=>O.same b (by omega))
theorem Jp.only {base:Nat} (h:Jp N base w s v1 v2 v3 v4 v5 v6 v7) (O:JJ g w w') (h1:N≤g) (h2:g<base):Jp N base w' s v1 v2 v3 v4 v5 v6 v7 :=
 h.on O.below (fun b _ hb=>O.same b (by omega))
theorem Q9 (h:Qd s=0) (hf:s.fits):s.purses.length≤60∧QT s.purses:=by
 obtain ⟨-,-,hm,hd⟩:=QX h;have b:s.purses.length≤60:=by simp [QaC] at hm;omega
 have hp:QaM s.purses=0:=(JG _).1 hd _ (by simp)
 exact (Qet fun p hp=>(hf.2.2.2.2.2.2.2.2 p hp).2.2).1 (by unfold Qh1;simp [b,hp])
theorem Qh2 {l:List Pu} (h:QT l):∀ p∈l,p.fits:=fun p hp=>by
 obtain ⟨a,b,-,d⟩:=h.ok p hp;simp [QH] at a b;exact ⟨by omega,by omega,d⟩
theorem Qdb {l:List Pu} (hf:s.fits) (h:QT l) (hl:l.length≤60):({ s with purses:=l }:St).fits:=⟨hf.1,hf.2.1,hf.2.2.1,hf.2.2.2.1,hf.2.2.2.2.1,hf.2.2.2.2.2.1,hf.2.2.2.2.2.2.1,by show l.length<_;omega,Qh2 h⟩
theorem QaN {l:List Pu} (hw:Qd s=0) (h:QT l) (hl:l.length≤60):Qd { s with purses:=l }=0:=by
 obtain ⟨h1,h2,h3,h4⟩:=QX hw
 have hp:QaM l=0:=by
  have:=(Qet (l:=l) fun p hp=>(h.ok p hp).2.2.2).2 ⟨hl,h⟩
  unfold Qh1 at this;simp at this;exact this.2
 have hd:Qjo { s with purses:=l }=0:=(JG _).2 fun x hx=>by
  have:=(JG _).1 h4;simp at hx this;obtain ⟨g1,g2,g3,g4,g5,g6,g7⟩:=this
  rcases hx with rfl | rfl | rfl | rfl | rfl | rfl | rfl
  ·exact g1
  ·exact g2
  ·exact g3
  ·exact g4
  ·exact g5
  ·exact g6
  ·exact hp
 have hm:QaC { s with purses:=l }=false:=by simp [QaC] at h3 ⊢;omega
 unfold Qd;rw [if_neg (by simp [h1]),if_neg (by simp [h2.1,h2.2]),if_neg (by simp [hm])]
 exact hd
theorem J3.only {base:Nat} {l:List Pu} (h:J3 base w v l) (O:JJ g w w') (hg:g<base):J3 base w' v l :=
 Qf.keep h fun k hk=>O.same k (by have:=(Qf.own h k hk).1;omega)
theorem Qct {l:List Pu} (h:Zw w N s v1 v2 v3 v4 v5 v6 v7) (hN:N≤g) (hl:Qt PuR 3 w g v l):Zw w g { s with purses:=l } v1 v2 v3 v4 v5 v6 v :=
 have k:=h.mono hN
 ⟨k.clients,k.conns,k.chans,k.sent,k.got,k.acks,hl⟩
theorem Qol {l:List Pu} (h:Zw w N s v1 v2 v3 v4 v5 v6 v7):Zw w N { ({ s with purses:=l }:St) with purses:=[] } v1 v2 v3 v4 v5 v6 (Bc) :=
 ⟨h.clients,h.conns,h.chans,h.sent,h.got,h.acks,Qt.nil _ _ _ _⟩
def QvJ (f:FuncId):Prop:=∀ (s:St) (v:Value) (N:Nat) (w:World) (c:Int),StV w N v s→N≤w.heap.size→Qd s=0 →
 Calls prog f #[v,Bb c] w fun e w'=>e=.returned (Bb (ZS s c))∧Bd w w'
theorem Qsi: QvJ 106:=by
 intro s v N w c hv hN hw;obtain ⟨o1,c1,o2,c2,o3,c3,o4,c4,o5,c5,o6,c6,o7,c7,rfl,hm⟩:=hv.open;have HT:=hid (Qm6 hw);have HC:=hid (QbH hw);have HM:=hid hm;clear hv hm hw
 go_in
 go_upto_region 1 with fail
 refine JQ ?_;intro w0 F hs;clear hs;have k3:=F.r0.k10.2.2.2.1
 by_cases h0:c<0
 ·have e0:decide (c<0)=true:=by simpa using h0
  have HL:=hid (QhK (s:=s) (.inl h0));go_wp2;go_ret;exact ⟨by rw [HL.out];rfl,F.b⟩
 have e0:decide (c<0)=false:=by simpa using h0
 by_cases h1:(s.clients.length:Int)≤c
 ·have e1:decide ((s.clients.length:Int)≤c)=true:=by simpa using h1
  have HL:=hid (QhK (s:=s) (.inr h1));go_wp2;go_ret;exact ⟨by rw [HL.out];rfl,F.b⟩
 have e1:decide ((s.clients.length:Int)≤c)=false:=by simpa using h1
 obtain ⟨k,rfl⟩:∃ k:Nat,c=(k:Int):=⟨c.toNat,by omega⟩
 have hlt':(k:Int)<(s.clients.length:Int):=by omega
 obtain ⟨x,hx⟩:∃ x,s.clients[k]?=some x:=⟨_,Bk (by omega)⟩
 obtain ⟨b,f,rfl,gx⟩:=(HM.out.below (F.b.mono hN)).clients.spot (by omega)
 obtain ⟨A,r,hr,cx⟩:=gx k x hx;obtain ⟨kv,rfl,q⟩:=hr;obtain ⟨ka,ma,rfl,-⟩:=q.shape;have x0:=cx 0 _ rfl;have x1:=cx 1 _ rfl;have x2:=cx 2 _ rfl;have x3:=cx 3 _ rfl;simp only [BK] at x0;have m:N≤w0.heap.size:=Bh hN F.b.size;have j:b<w0.heap.size:=Bt A m;have HX:=hid (And.intro x0 (And.intro x1 (And.intro x2 x3)));have z:=hid (fun W (hb:Bd w0 W)=>QoG x s.time (.agg #[.string x.chain,Bb x.trust,.bool x.frozen,.slice ka x.known.length ma]) N W ⟨_,rfl,q.below (hb.mono m)⟩ (Bh m hb.size) (HC.out x (Bn hx)) HT.out)
 have HL:=hid (Qmd hx);clear gx cx x0 x1 x2 x3 hx q h0 h1 HM HT HC
 go_upto_region 3 with fail
 have HF:=hid F;clear F k3 e0 e1;generalize x.known.length=xl at *;apply QJ (by kernel_rfl) (fun W hb=>And.intro (HF.out.go hb).r0.k10 (And.intro ((hb.cell (p:=⟨b,f+k*4,none⟩) j).trans HX.out.1) (And.intro ((hb.cell (p:=⟨b,f+k*4+1,none⟩) j).trans HX.out.2.1) (And.intro ((hb.cell (p:=⟨b,f+k*4+2,none⟩) j).trans HX.out.2.2.1) ((hb.cell (p:=⟨b,f+k*4+3,none⟩) j).trans HX.out.2.2.2))))) (by kernel_rfl)
 ·intro σ;simp [Ql];exact rfl
 iterate 7 (apply RK.val rfl;· intro σ W hb hc ⟨hd,hu⟩;simp at hd hu;go_simp;exact rfl)
 apply RK.callV rfl
 ·intro σ W hb hc ⟨hd,hu⟩;simp at hd hu;go_simp;exact ⟨rfl,rfl⟩
 ·intro W hb hc;exact z.out W hb
 iterate 2 (apply RK.val rfl;· intro σ W hb hc ⟨hd,hu⟩;simp at hd hu;go_simp;exact rfl)
 intro σ W hb _;simp only [JE,Bv,By,Nat.reduceAdd];intro hF;obtain ⟨-,-,-,-,-,-,-,-,-,e9,-⟩:=hF;have HB:=hid (HF.out.go hb).b;simp only [e9];clear hb e9
 cases e:YL x s.time with
 | false =>
  rw [e] at HL;clear e;go_wp2;go_ret;exact ⟨by rw [HL.out];rfl,HB.out⟩
 | true =>
  rw [e] at HL;clear e;go_wp2;go_ret;exact ⟨by rw [HL.out];rfl,HB.out⟩
theorem Y2 {i st:Int} (h:Qcc s i st=0):Qd s=0∧(0≤i∧i<(s.conns.length:Int))∧(Yd s i).state=st∧ZS s (Yd s i).client=0:=by
 unfold Qcc at h
 split at h
 ·rename_i h1;exact absurd h h1
 rename_i h1
 split at h
 ·cases h
 split at h
 ·cases h
 rename_i h2 h3;exact ⟨by simpa using h1,by omega,by simpa using h3,h⟩
theorem Qj2 (s:St) (v:Value) (N:Nat) (w:World) (c:Int) (hv:StV w N v s) (hN:N≤w.heap.size) (j:s.fits) :
  Calls prog 78 #[v,Bb c] w fun e w'=>e=.returned (Bb (J0 s c))∧Bd w w':=by
 have HE:=hid (show J0 s c=if Qd s≠0 then Qd s else ZS s c from rfl)
 have D:=hid (fun wx (hx:Bd w wx)=>Qdg s v N wx (hv.below (hx.mono hN)) (Bh hN hx.size) j)
 have C:=hid (fun (h0:Qd s=0) wx (hx:Bd w wx)=>Qsi s v N wx c (hv.below (hx.mono hN)) (Bh hN hx.size) h0)
 obtain ⟨o1,c1,o2,c2,o3,c3,o4,c4,o5,c5,o6,c6,o7,c7,rfl,-⟩:=hv.open;clear hv j
 go_in
 go_upto_region 1 with fail
 refine JQ ?_;intro w0 F0 hs;clear hs
 go_wp2_with (refine F0.load 0 rfl Qa ?_)
 refine (D.out _ F0.b).mono ?_;rintro e w1 ⟨rfl,m⟩;have F:=F0.go m;clear m F0
 by_cases hz:Qd s=0
 ·have HL:=hid (HE.out.trans (if_neg (by simp [hz])))
  have A:=hid (C.out hz);rw [hz];clear hz
  go_wp2_with (refine F.load 0 rfl Qa ?_)
  refine (A.out _ F.b).mono ?_;rintro e w2 ⟨rfl,q⟩;have HB:=hid (F.go q).b;clear q F;generalize ZS s c=lv at *;go_wp2;go_ret;exact ⟨by rw [HL.out];rfl,HB.out⟩
 ·have e0:(Qd s != 0)=true:=by simpa using hz
  have HL:=hid (HE.out.trans (if_pos hz));have HB:=hid F.b;clear hz F;generalize Qd s=z at *;go_wp2;go_ret;exact ⟨by rw [HL.out];rfl,HB.out⟩
theorem QoR (s:St) (v:Value) (N:Nat) (w:World) (i st:Int) (hv:StV w N v s) (hN:N≤w.heap.size) (j:s.fits) :
  Calls prog 81 #[v,Bb i,Bb st] w fun e w'=>e=.returned (Bb (Qcc s i st))∧Bd w w':=by
 have HE:=hid (show Qcc s i st=if Qd s≠0 then Qd s else if i<0∨(s.conns.length:Int)≤i then 6 else if (Yd s i).state≠st then 12 else ZS s (Yd s i).client from rfl)
 have D:=hid (fun wx (hx:Bd w wx)=>Qdg s v N wx (hv.below (hx.mono hN)) (Bh hN hx.size) j)
 have C:=hid (fun (h0:Qd s=0) (c:Int) wx (hx:Bd w wx)=>Qsi s v N wx c (hv.below (hx.mono hN)) (Bh hN hx.size) h0)
 obtain ⟨o1,c1,o2,c2,o3,c3,o4,c4,o5,c5,o6,c6,o7,c7,rfl,hm⟩:=hv.open;have HM:=hid hm;clear hv hm j
 go_in
 go_upto_region 1 with fail
 refine JQ ?_;intro w0 F0 hs;clear hs
 go_wp2_with (refine F0.load 0 rfl Qa ?_)
 refine (D.out _ F0.b).mono ?_;rintro e w1 ⟨rfl,q⟩;have F:=F0.go q;clear q F0
 by_cases hz:Qd s=0
 ·have HS:=hid (HE.out.trans (if_neg (by simp [hz])))
  have A:=hid (C.out hz);rw [hz];clear hz;have k4:=F.r0.k10.2.2.2.2.1
  by_cases h0:i<0
  ·have e0:decide (i<0)=true:=by simpa using h0
   go_wp2;go_ret;exact ⟨by rw [HS.out,if_pos (.inl h0)];rfl,F.b⟩
  have e0:decide (i<0)=false:=by simpa using h0
  by_cases h1:(s.conns.length:Int)≤i
  ·have e1:decide ((s.conns.length:Int)≤i)=true:=by simpa using h1
   go_wp2;go_ret;exact ⟨by rw [HS.out,if_pos (.inr h1)];rfl,F.b⟩
  have e1:decide ((s.conns.length:Int)≤i)=false:=by simpa using h1
  have m:=hid (HS.out.trans (if_neg (by omega)))
  obtain ⟨k,rfl⟩:∃ k:Nat,i=(k:Int):=⟨i.toNat,by omega⟩
  have hlt':(k:Int)<(s.conns.length:Int):=by omega
  obtain ⟨x,hx⟩:∃ x,s.conns[k]?=some x:=⟨_,Bk (by omega)⟩
  rw [Yn hx] at m;obtain ⟨b,f,rfl,gx⟩:=(HM.out.below (F.b.mono hN)).conns.spot (by omega)
  obtain ⟨G,r,hr,cx⟩:=gx k x hx;subst hr;have x0:=cx 0 _ rfl;have E:=hid (cx 1 _ rfl);simp only [BK] at x0;have I:b<w1.heap.size:=Bt G (Bh hN F.b.size);clear gx cx hx HE HS
  by_cases hs:x.state=st
  ·have es:(x.state != st)=false:=by simpa using hs
   have HL:=hid (m.out.trans (if_neg (by simp [hs])))
   clear hs
   go_upto_region 8 with fail
   have HF:=hid F;clear F x0 k4;apply QJ (by kernel_rfl) (fun W hb=>And.intro (HF.out.go hb).r0.k10 ((hb.cell (p:=⟨b,f+k*4+1,none⟩) I).trans E.out)) (by kernel_rfl)
   ·intro σ;simp [Ql];exact rfl
   iterate 7 (apply RK.val rfl;· intro σ W hb hc ⟨hd,hu⟩;simp at hd hu;go_simp;exact rfl)
   apply RK.callV rfl
   ·intro σ W hb hc ⟨hd,hu⟩;simp at hd hu;go_simp;exact ⟨rfl,rfl⟩
   ·intro W hb hc;exact A.out x.client W (HF.out.go hb).b
   apply RK.val rfl;· intro σ W hb hc ⟨hd,hu⟩;simp at hd hu;go_simp;exact rfl
   intro σ W hb _;simp only [JE,Bv,By,Nat.reduceAdd];intro hF;obtain ⟨-,-,-,-,-,-,-,-,e8,-⟩:=hF;have HB:=hid (HF.out.go hb).b;simp only [e8];clear hb e8;go_wp2;go_ret;exact ⟨by rw [HL.out];rfl,HB.out⟩
  ·have es:(x.state != st)=true:=by simpa using hs
   have HL:=hid (m.out.trans (if_pos hs));clear hs;go_wp2;go_ret;exact ⟨by rw [HL.out];rfl,F.b⟩
 ·have e0:(Qd s != 0)=true:=by simpa using hz
  have HL:=hid (HE.out.trans (if_pos hz));have HB:=hid F.b;clear hz F;generalize Qd s=z at *;go_wp2;go_ret;exact ⟨by rw [HL.out];rfl,HB.out⟩
theorem QlF (k:Int) (hk:0≤k∧k≤1000000000000) (w:World) (j:QL w):Calls prog 108 #[Bb k] w fun e w'=>∃ v,e=.returned v∧Jd w' w.heap.size v (Jt Qa4 [k.toNat])∧Bd w w':=by
 obtain ⟨w0,b⟩:∃ w0,w.alloc (.cells #[Bb k] 3)=w0:=⟨_,rfl⟩;have q:=bof b;have m:=hid q;have HK:=hid (QaT ⟨#[99,111,110,110]⟩ [k] w.heap.size 1 w0 (by decide) (by rw [← b];exact Row.new _ _ _) rfl (by decide) (fun n hn=>by simp at hn;omega) (j.below q))
 have z:=hid b;clear q b j
 go_in
 go_wp2_with fail
 rw [z.out];refine HK.out.mono ?_;rintro e w1 ⟨v,rfl,ho,hb⟩;have HO:=hid ho;have HB:=hid hb;clear ho hb;go_wp2;go_ret;exact ⟨v,rfl,HO.out.mono m.out.size,m.out.trans (HB.out.mono m.out.size)⟩
theorem QlG (c:Cn) (h:Ji c=0) (w:World):Calls prog 109 #[.agg #[Bb c.state,Bb c.client,Bb c.oclient,Bb c.oconn]] w fun e w'=>∃ v,e=.returned v∧Jd w' w.heap.size v (QcY c)∧Bd w w':=by
 obtain ⟨w0,j⟩:∃ w0,w.alloc (.cells #[Bb c.state,Bb c.client,Bb c.oclient,Bb c.oconn] 82)=w0:=⟨_,rfl⟩;have A:=bof j;have E:=hid A;have b:=(show Row w0 w.heap.size 82 [Bb c.state,Bb c.client,Bb c.oclient,Bb c.oconn] by rw [← j];exact Row.new _ _ _)
 have k0:=b.cell 0;have k1:=b.cell 1;have k2:=b.cell 2;have k3:=b.cell 3;have M:=Zv h;have hwr:IntKind.i64.wrap (c.oconn+1)=c.oconn+1:=by rw [Cd];omega
 obtain ⟨w1,m⟩:∃ w1,w0.alloc (.cells #[Bb (c.state),Bb (c.client),Bb (c.oclient),Bb (c.oconn+1)] 3)=w1:=⟨_,rfl⟩;have C:=bof m;have z:=hgo E C
 have HC:=hid (Qbu [c.state,c.client,c.oclient,c.oconn+1] w0.heap.size 4 w1 (by rw [← m];exact Row.new _ _ _) rfl (by decide) (fun x hx=>by
  simp only [Bo,BH,BI] at hx
  omega))
 have I:=hid j;have L:=hid m;clear b A C j m h M
 go_in
 go_upto_region 1 with fail
 rw [I.out]
 go_wp2_with fail
 rw [L.out];refine HC.out.mono ?_;rintro e w2 ⟨v,rfl,q,D⟩;have G:=hgo z D;have HO:=hid (q.mono z.out.size);clear D q;go_wp2;go_ret;exact ⟨_,rfl,HO.out,G.out⟩
theorem Qkm (c:Ch) (E:c.ordered=true) (h:(1≤c.state∧c.state≤4)∧(0≤c.conn∧c.conn≤1000000000000)∧(-1≤c.ochan∧c.ochan≤1000000000000)) (w:World):Calls prog 112 #[.agg #[Bb c.state,.bool true,Bb c.conn,Bb c.ochan,Bb c.send,Bb c.recv,Bb c.ack]] w fun e w'=>∃ v,e=.returned v∧Jd w' w.heap.size v (QcV c)∧Bd w w':=by
 obtain ⟨w0,j⟩:∃ w0,w.alloc (.cells #[Bb c.state,.bool true,Bb c.conn,Bb c.ochan,Bb c.send,Bb c.recv,Bb c.ack] 86)=w0:=⟨_,rfl⟩;have A:=bof j;have G:=hid A;have b:=(show Row w0 w.heap.size 86 [Bb c.state,.bool true,Bb c.conn,Bb c.ochan,Bb c.send,Bb c.recv,Bb c.ack] by rw [← j];exact Row.new _ _ _)
 have k0:=b.cell 0;have k1:=b.cell 1;have k2:=b.cell 2;have k3:=b.cell 3;have k4:=b.cell 4;have k5:=b.cell 5;have k6:=b.cell 6;have O:=h;have hwr:IntKind.i64.wrap (c.ochan+1)=c.ochan+1:=by rw [Cd];omega
 obtain ⟨w1,m⟩:∃ w1,w0.alloc (.cells #[Bb (c.state),Bb (1),Bb (c.conn),Bb (c.ochan+1)] 3)=w1:=⟨_,rfl⟩;have C:=bof m;have z:=hgo G C
 have HC:=hid (Qbu [c.state,1,c.conn,c.ochan+1] w0.heap.size 4 w1 (by rw [← m];exact Row.new _ _ _) rfl (by decide) (fun x hx=>by
  simp only [Bo,BH,BI] at hx
  omega))
 have L:=hid j;have M:=hid m;clear b A C j m h O
 go_in
 go_upto_region 1 with fail
 rw [L.out]
 go_wp2_with fail
 rw [M.out];refine HC.out.mono ?_;rintro e w2 ⟨v,rfl,q,D⟩;have I:=hgo z D;have HO:=hid (q.mono z.out.size);clear D q;go_wp2;go_ret;exact ⟨_,rfl,by unfold QcV;rw [E];exact HO.out,I.out⟩
theorem QiG (c:Ch) (E:c.ordered=false) (h:(1≤c.state∧c.state≤4)∧(0≤c.conn∧c.conn≤1000000000000)∧(-1≤c.ochan∧c.ochan≤1000000000000)) (w:World):Calls prog 112 #[.agg #[Bb c.state,.bool false,Bb c.conn,Bb c.ochan,Bb c.send,Bb c.recv,Bb c.ack]] w fun e w'=>∃ v,e=.returned v∧Jd w' w.heap.size v (QcV c)∧Bd w w':=by
 obtain ⟨w0,j⟩:∃ w0,w.alloc (.cells #[Bb c.state,.bool false,Bb c.conn,Bb c.ochan,Bb c.send,Bb c.recv,Bb c.ack] 86)=w0:=⟨_,rfl⟩;have A:=bof j;have G:=hid A;have b:=(show Row w0 w.heap.size 86 [Bb c.state,.bool false,Bb c.conn,Bb c.ochan,Bb c.send,Bb c.recv,Bb c.ack] by rw [← j];exact Row.new _ _ _)
 have k0:=b.cell 0;have k1:=b.cell 1;have k2:=b.cell 2;have k3:=b.cell 3;have k4:=b.cell 4;have k5:=b.cell 5;have k6:=b.cell 6;have O:=h;have hwr:IntKind.i64.wrap (c.ochan+1)=c.ochan+1:=by rw [Cd];omega
 obtain ⟨w1,m⟩:∃ w1,w0.alloc (.cells #[Bb (c.state),Bb (0),Bb (c.conn),Bb (c.ochan+1)] 3)=w1:=⟨_,rfl⟩;have C:=bof m;have z:=hgo G C
 have HC:=hid (Qbu [c.state,0,c.conn,c.ochan+1] w0.heap.size 4 w1 (by rw [← m];exact Row.new _ _ _) rfl (by decide) (fun x hx=>by
  simp only [Bo,BH,BI] at hx
  omega))
 have L:=hid j;have M:=hid m;clear b A C j m h O
 go_in
 go_upto_region 1 with fail
 rw [L.out]
 go_wp2_with fail
 rw [M.out];refine HC.out.mono ?_;rintro e w2 ⟨v,rfl,q,D⟩;have I:=hgo z D;have HO:=hid (q.mono z.out.size);clear D q;go_wp2;go_ret;exact ⟨_,rfl,by unfold QcV;rw [E];exact HO.out,I.out⟩
theorem Qno (c:Ch) (h:(1≤c.state∧c.state≤4)∧(0≤c.conn∧c.conn≤1000000000000)∧(-1≤c.ochan∧c.ochan≤1000000000000)) (w:World):Calls prog 112 #[.agg #[Bb c.state,.bool c.ordered,Bb c.conn,Bb c.ochan,Bb c.send,Bb c.recv,Bb c.ack]] w fun e w'=>∃ v,e=.returned v∧Jd w' w.heap.size v (QcV c)∧Bd w w':=by
 cases ho:c.ordered with
 | true=>exact Qkm c ho h w
 | false=>exact QiG c ho h w
theorem Qlz (k:Int) (hk:0≤k∧k≤1000000000000) (w:World) (j:QL w):Calls prog 111 #[Bb k] w fun e w'=>∃ v,e=.returned v∧Jd w' w.heap.size v (Jt Qek [k.toNat])∧Bd w w':=by
 obtain ⟨w0,b⟩:∃ w0,w.alloc (.cells #[Bb k] 3)=w0:=⟨_,rfl⟩;have q:=bof b;have m:=hid q;have HK:=hid (QaT ⟨#[99,104,97,110]⟩ [k] w.heap.size 1 w0 (by decide) (by rw [← b];exact Row.new _ _ _) rfl (by decide) (fun n hn=>by simp at hn;omega) (j.below q))
 have z:=hid b;clear q b j
 go_in
 go_wp2_with fail
 rw [z.out];refine HK.out.mono ?_;rintro e w1 ⟨v,rfl,ho,hb⟩;have HO:=hid ho;have HB:=hid hb;clear ho hb;go_wp2;go_ret;exact ⟨v,rfl,HO.out.mono m.out.size,m.out.trans (HB.out.mono m.out.size)⟩
theorem Qkx (q:Int) (hq:0≤q∧q≤1000000000000):(Jt Qa4 [q.toNat]).length≤140737488351232:=by
 have h:=Zj 12 q.toNat (by omega)
 simp [Jt,Qa4];omega
theorem Qky (o:Cn) (ho:Ji o=0):(QcY o).length≤140737488351232:=by
 have hok:=Zv ho;have:=(QgI [o.state,o.client,o.oclient,o.oconn+1] (by simp) (fun n hn=>by simp at hn;omega)).2
 unfold QcY;omega
theorem Qt.client {j:Nat} {l:List Cl} {x:Cl} (h:Qt ClR 4 w N (.slice oa n j) l) (hn:n=l.length) (hx:l[k]?=some x):∃ b f ka ma,oa=some ⟨b,f,.none⟩∧b<N∧w.rangeAt b (f+k*4) [.string x.chain,Bb x.trust,.bool x.frozen,.slice ka x.known.length ma]∧ClV w N (.agg #[.string x.chain,Bb x.trust,.bool x.frozen,.slice ka x.known.length ma]) x:=by
 have:=(Bm.1 hx).1;obtain ⟨b,f,rfl,gx⟩:=h.spot (by omega)
 obtain ⟨hb,r,⟨kc,rfl,e⟩,cx⟩:=gx k x hx;obtain ⟨ka,ma,rfl,-⟩:=e.shape;exact ⟨b,f,ka,ma,rfl,hb,cx,_,rfl,e⟩
theorem QoY (s:St) (v L:Value) (N:Nat) (w:World) (c q z:Int) (o:Cn) (h:Sh) (hv:StV w N v s) (hh:ShV w N L h) (hN:N≤w.heap.size) (m:s.fits) (G:h.fits) (C:Qi w) (A:QL w) (hc:0≤c∧c<(s.clients.length:Int)) (hq:0≤q∧q≤1000000000000) (ho:Ji o=0) (hz:JM s c h (Jt Qa4 [q.toNat]) (QcY o) z) :
  Calls prog 80 #[v,Bb c,Bb q,.agg #[Bb o.state,Bb o.client,Bb o.oclient,Bb o.oconn],L] w fun e w'=>e=.returned (Bb z)∧Bd w w':=by
 obtain ⟨k,rfl⟩:∃ k:Nat,c=(k:Int):=⟨c.toNat,by omega⟩
 have hlt:(k:Int)<(s.clients.length:Int):=by omega
 obtain ⟨x,hx⟩:∃ x,s.clients[k]?=some x:=⟨_,Bk (by omega)⟩
 unfold JM at hz;rw [QaS hx] at hz;have M:=hid (fun W (hW:Bd w W)=>QlF q hq W (A.below hW))
 have S:=hid (QlG o ho);obtain ⟨o1,c1,o2,c2,o3,c3,o4,c4,o5,c5,o6,c6,o7,c7,rfl,hm⟩:=hv.open;obtain ⟨q1,e1,q2,e2,q3,e3,r1,s1,r2,s2,r3,s3,r4,s4,r5,s5,r6,s6,rfl,I⟩:=hh.open;have O:=hid (fun W (hW:Bd w W) cv kv vv (h3:ClV W N cv x) h4 h5=>Qbi.z Qe1 x s.time h.height (Jt Qa4 [q.toNat]) (QcY o) h.prf cv kv vv _ W.heap.size W (C.past hW) (Bj _) (h3.mono (Bh hN hW.size)) h4 h5 ((I.below (hW.mono hN)).mono (Bh hN hW.size)) (m.2.1.2 x (Bn hx)) (Qkx q hq) (Qky o ho) G.1 hz)
 have HX:=hid hx;have HM:=hid hm;clear hv hm hh I m G C A hz hx
 go_in
 go_upto_region 1 with fail
 refine JR ?_;intro w0 F hs;obtain ⟨b,f,ka,ma,rfl,hb,D,E⟩:=(HM.out.below (F.b.mono hN)).clients.client rfl HX.out;have Y:=F.b.size;have HF:=hid F;have HC:=hid D;have HV:=hid (fun W (hx:Bd w0 W)=>E.below (hx.mono (Bh hN Y)))
 have T:b<w0.heap.size:=by omega
 clear F hs D E;apply QJ (by kernel_rfl) (fun W hb=>And.intro (HF.out.go hb).r0.cell (HF.out.go hb).r2.cell) (by kernel_rfl)
 ·intro σ;simp [Ql];exact rfl
 iterate 4 (apply RK.val rfl;· intro σ W hb hc ⟨hd,hu⟩;simp at hd hu;go_simp;exact rfl)
 apply RK.val rfl;· intro σ W hb hc ⟨hd,hu⟩;simp at hd;exact ZF rfl hd (fun j v hj=>(hb.cell T).trans (HC.out j v hj)) Qm
 iterate 5 (apply RK.val rfl;· intro σ W hb hc ⟨hd,hu⟩;simp at hd hu;go_simp;exact rfl)
 apply RK.callG (ByB (Jt Qa4 [q.toNat])) (ByB.stay _) rfl
 ·intro σ W hb hc ⟨hd,hu⟩;simp at hd hu;exact ⟨_,_,by go_simp,(M.out W (HF.out.go hb).b).mono fun e w' ⟨v,h1,h2,h3⟩=>⟨v,h1,h3,.of h2.bytes⟩⟩
 apply RK.val rfl;· intro σ W hb hc ⟨hd,hu⟩;exact ZF rfl rfl (HF.out.go hb).r1.range Z6
 apply RK.callG (ByB (QcY o)) (ByB.stay _) rfl
 ·intro σ W hb hc ⟨hd,hu⟩;simp at hd hu;exact ⟨_,_,by go_simp,(S.out W).mono fun e w' ⟨v,h1,h2,h3⟩=>⟨v,h1,h3,.of h2.bytes⟩⟩
 iterate 2 (apply RK.val rfl;· intro σ W hb hc ⟨hd,hu⟩;simp at hd hu;go_simp;exact rfl)
 apply RK.callG _ (Yq.eq (Bb z)) rfl
 ·intro σ W hb hc ⟨hd,hu⟩;simp at hd hu
  have HD:=hid (O.out W (HF.out.go hb).b _ _ _ (HV.out W hb) (ByB.bytes hd.2.2.2.1) (ByB.bytes hd.2.2.2.2.1));exact ⟨_,_,by go_simp,HD.out.mono fun e w' ⟨h1,h2⟩=>⟨_,h1,h2,rfl⟩⟩
 iterate 1 (apply RK.val rfl;· intro σ W hb hc ⟨hd,hu⟩;simp at hd hu;go_simp;exact rfl)
 intro σ W hb _ hF;simp [JE] at hF;go_simp;clear hF;have F:=HF.out.go hb;clear hb;go_wp2;go_ret;exact ⟨rfl,F.b⟩
theorem Qi7 (s:St) (v:Value) (N:Nat) (w:World) (o:Cn) (hv:StV w N v s) (hN:N≤w.heap.size) (z:s.fits) (j:few s) :
  Calls prog 79 #[v,.agg #[Bb o.state,Bb o.client,Bb o.oclient,Bb o.oconn]] w fun e w'=>Bd w w'∧∃ v',e=.returned (.tuple #[v',Bb (Qlp s (QbS s)),Bb (QbS s)])∧Qp N w.heap.size w' v' (Qna s (QbS s) o):=by
 have T:=hid (fun wx (hx:Bd w wx)=>QlH s v N wx (hv.below (hx.mono hN)) (Bh hN hx.size) z j)
 have hlc:s.conns.length≤100:=j.2.1;obtain ⟨o1,c1,o2,c2,o3,c3,o4,c4,o5,c5,o6,c6,o7,c7,rfl,hm⟩:=hv.open;clear hv hm z j
 go_in
 go_upto_region 1 with fail
 refine JR ?_;intro w0 F hs;have k4:=F.r0.k10.2.2.2.2.1
 by_cases h8:8≤s.conns.length
 ·have e8:decide ((8:Int)≤(s.conns.length:Int))=true:=by simp;omega
  have HM:=hid (show QbS s=5 from if_pos h8)
  go_wp2_with (refine F.store 2 rfl Qa (by simp) ?_;intro w1 F1 O1)
  refine Ya results79 rfl F1.r2 Qa rfl ⟨F1.b,_,by rw [HM.out];rfl,?_⟩
  rw [HM.out];exact Qg _ _ _
 ·have e8:decide ((8:Int)≤(s.conns.length:Int))=false:=by simp;omega
  have HM:=hid (show QbS s=0 from if_neg h8)
  go_wp2_with (refine F.load 0 rfl Qa ?_)
  refine (T.out _ F.b).mono ?_;rintro e w2 ⟨D,p1,d1,p2,d2,p3,d3,p4,d4,p5,d5,p6,d6,p7,d7,rfl,C⟩;have F2:=F.go D;have I:=F.r0.lt;have aE:=F.r2.lt;have hsz2:=D.size;have HL:=hid F.lts;have Y:=hid C;clear D k4 C F hs
  go_upto_region 5 with (refine F2.store 0 rfl Qa (by simp) ?_;intro w3 F3 O3)
  have aA:=hid (Y.out.only O3 hN I);have aD:=hid O3.size;have k4:=F3.r0.k10.2.2.2.2.1;obtain ⟨a0,a1,a2,a3⟩:=F3.r1.k4;clear O3
  go_wp2_with (at_builtin;refine Hid.out ?_)
  refine hid ?_;refine Qvb ?_;intro w4 O q;have E:=hid (aA.out.below q);have S:=q.size;have aG:=aD.out;refine ZO QsV rfl _ _ rfl w0.heap.size _ (s.conns.map Q5) rfl E.out.conns _ _ (Q5 o) rfl (QgJ O) (Qee (l:=[o])) (by simp;omega) (by omega) ?_
  intro g da w5 m G L A;have F5:=(F3.go q).past G (by omega) HL.out
  have M:(s.conns.map Q5).length+1=(s.conns ++ [o]).length:=by simp
  rw [M] at m ⊢;have hrow':JA 82 Q5 4 w5 w0.heap.size (.slice (some ⟨g,0,none⟩) (s.conns ++ [o]).length da) (s.conns ++ [o]):=by have:=m;rw [← List.map_singleton,← Cc] at this;exact this
  have aB:=hid (E.out.putConns L hrow' (fun b e=>by obtain rfl:g=b:=(by simpa [Value.ownBlock] using e);exact A.imp id (fun h=>by omega)))
  clear m hrow' G L A q aG S O k4 a0 a1 a2 a3 M;generalize aF:(s.conns ++ [o]).length=ln at *;clear aF;have g4:=F5.r0.k10.2.2.2.2.1;have z4:=F5.r0.frozen 4
  go_upto_region 6 with fail
  refine F5.cell 0 rfl ?_;intro w6 F6 O6;have aC:=hid (aB.out.only O6 hN I);clear g4 z4 O6
  go_wp2_with (first | refine F6.load 0 rfl Qa ?_ | refine F6.store 2 rfl Qa (by simp) ?_;intro w7 F7 O7)
  refine Ya results79 rfl F7.r2 Qa rfl ⟨F7.b,_,by rw [HM.out];rfl,?_⟩
  rw [HM.out];exact ((aC.out.only O7 (by omega) aE).lower (by omega)).holds
end Go.Proofs.YtnedafiokmjkkaaGreatDoor
