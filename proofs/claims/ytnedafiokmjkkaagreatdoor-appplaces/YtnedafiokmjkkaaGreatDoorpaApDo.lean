/- app.Do. -/
import Derived.Test.YtnedafiokmjkkaaGreatDoorpaStWrong
import Derived.Deep.Cut
namespace Go.Proofs.YtnedafiokmjkkaaGreatDoor
open Tryz
set_option maxRecDepth 1000000
set_option maxHeartbeats 8000000
open Go.RowKit
variable {a:Act} {w w' w1:World} {Q:Exit→Act→World→Prop} {N g:Nat} {t t':TypeId} {x:Operand} {cs xs:List Value} {fn:Func} {R:Ending→World→Prop} {v v1 v2 v3 v4 v5 v6 v7:Value} {s:St}
theorem Z0: Qv 53 62:=⟨⟨_,underlying53,rfl⟩,by kernel_rfl⟩
theorem QB: Qv 58 7:=⟨⟨_,underlying58,rfl⟩,by kernel_rfl⟩
theorem Qh7: Qv 49 4:=⟨⟨_,underlying49,rfl⟩,by kernel_rfl⟩
theorem FrB.loadMid {b:Array Oper} {rest:List Oper} {op:Oper} {l:List Bx} (F:Fr w l w1) (i o:Nat) (ds:List Value) (e:op.guard=none) (ho:op.op=.load t' x) (hx:a.eval x=.pointer (some ⟨g,o,none⟩)) (hi:l[i]?=some (g,t,cs)) (hc:(cs.drop o).take ds.length=ds) (hs:Qv t' ds.length)
  (h:wpList prog b Q rest (a.put op.dst (.agg ds.toArray)) w1):wpList prog b Q (op :: rest) a w1:=by
 obtain ⟨⟨d,hu,hd⟩,hz⟩:=hs;refine wpList_load_mid e t' x ho g o hx ds d (fun j v hj=>?_) hu (by cases d <;> first | rfl | cases hd) hz h
 have hr:Row w1 g t cs:=F.rows _ (Bn hi);refine (hr.cell (o+j)).trans ?_;rw [← hc,BH] at hj
 split at hj
 ·rw [Cp] at hj
  exact hj
 ·cases hj
theorem Qa3 {s u h:Nat} (hf:fn.results=#[.cell s t,.cell u t']) (hs:a.tmps.getD s undef=.pointer (some ⟨g,0,none⟩)) (hr:Row w g t cs) (ht:Qv t cs.length) (hu:a.tmps.getD u undef=.pointer (some ⟨h,0,none⟩)) (b:Row w h t' xs) (d:Qv t' xs.length) (hd:a.defers=[]) (hR:R (.returned (.tuple #[.agg cs.toArray,.agg xs.toArray])) w):bodyPost prog fn R .ret a w:=by
 have hs':a.tmps[s]?.getD undef=.pointer (some ⟨g,0,none⟩):=by simpa using hs
 have hu':a.tmps[u]?.getD undef=.pointer (some ⟨h,0,none⟩):=by simpa using hu
 exact BK (by simp [results,hf,hs',hu',asAddr,Ys hr ht,Ys b d]) hd hR
theorem QcM (nm:ByteArray) (hh tt:Int) (o0 o1 o2 o3 o4 o5 o6:Option Addr) (n0 n1 n2 n3 n4 n5 n6 c0 c1 c2 c3 c4 c5 c6:Nat) (e:Int) (w:World) :
  Calls prog 48 #[.agg #[.string nm,Bb hh,Bb tt,.slice o0 n0 c0,.slice o1 n1 c1,.slice o2 n2 c2,.slice o3 n3 c3,.slice o4 n4 c4,.slice o5 n5 c5,.slice o6 n6 c6],Bb e] w fun x w'=>x=.returned (.tuple #[.agg #[.string nm,Bb hh,Bb tt,.slice o0 n0 c0,.slice o1 n1 c1,.slice o2 n2 c2,.slice o3 n3 c3,.slice o4 n4 c4,.slice o5 n5 c5,.slice o6 n6 c6],.agg #[Bb e,Bb 0,Bb 0,Bb 0,Bb 0,Bc,Bb 0]])∧Bd w w':=by
 go_in
 go_upto_region 1 with fail
 refine JO ?_;intro w0 F0 hs;clear hs
 go_wp2_with (first | refine F0.load 0 rfl Qa ?_ | (refine F0.store 1 rfl Qa (by simp) ?_;intro w1 F1 O1) | (refine F1.store 2 rfl QB (by simp) ?_;intro w2 F2 O2))
 exact Qa3 results48 rfl F2.r1 Qa rfl F2.r2 QB rfl ⟨rfl,F2.b⟩
theorem QrY (nm:ByteArray) (hh tt:Int) (o0 o1 o2 o3 o4 o5 o6:Option Addr) (n0 n1 n2 n3 n4 n5 n6 c0 c1 c2 c3 c4 c5 c6:Nat) (i e:Int) (w:World) :
  Calls prog 46 #[.agg #[.string nm,Bb hh,Bb tt,.slice o0 n0 c0,.slice o1 n1 c1,.slice o2 n2 c2,.slice o3 n3 c3,.slice o4 n4 c4,.slice o5 n5 c5,.slice o6 n6 c6],Bb i,Bb e] w fun x w'=>x=.returned (.tuple #[.agg #[.string nm,Bb hh,Bb tt,.slice o0 n0 c0,.slice o1 n1 c1,.slice o2 n2 c2,.slice o3 n3 c3,.slice o4 n4 c4,.slice o5 n5 c5,.slice o6 n6 c6],.agg #[Bb e,Bb i,Bb 0,Bb 0,Bb 0,Bc,Bb 0]])∧Bd w w':=by
 go_in
 go_upto_region 1 with fail
 refine JO ?_;intro w0 F0 hs;clear hs
 go_wp2_with (first | refine F0.load 0 rfl Qa ?_ | (refine F0.store 1 rfl Qa (by simp) ?_;intro w1 F1 O1) | (refine F1.store 2 rfl QB (by simp) ?_;intro w2 F2 O2))
 exact Qa3 results46 rfl F2.r1 Qa rfl F2.r2 QB rfl ⟨rfl,F2.b⟩
theorem Qp.only {base:Nat} {t:St} (h:Qp N base w v t) (O:JG g w w') (h1:N≤g) (h2:g<base):Qp N base w' v t :=
 h.on O.below (fun b _ hb=>O.same b (by omega))
theorem Jn.only {base:Nat} (h:Jn N base w s v1 v2 v3 v4 v5 v6 v7) (O:JG g w w') (h1:N≤g) (h2:g<base):Jn N base w' s v1 v2 v3 v4 v5 v6 v7 :=
 h.on O.below (fun b _ hb=>O.same b (by omega))
theorem JF (h:Qd s=0) (hf:s.fits):s.purses.length≤60∧Q1 s.purses:=by
 obtain ⟨-,-,hm,hd⟩:=Q0 h;have b:s.purses.length≤60:=by simp [QaY] at hm;omega
 have hp:Qbr s.purses=0:=(JS _).1 hd _ (by simp)
 exact (QhQ fun p hp=>(hf.2.2.2.2.2.2.2.2 p hp).2.2).1 (by unfold QkL;simp [b,hp])
theorem QnM {l:List Pu} (h:Q1 l):∀ p∈l,p.fits:=fun p hp=>by
 obtain ⟨a,b,-,d⟩:=h.ok p hp;simp [QH] at a b;exact ⟨by omega,by omega,d⟩
theorem Qc5 {l:List Pu} (hf:s.fits) (h:Q1 l) (hl:l.length≤60):({ s with purses:=l }:St).fits:=⟨hf.1,hf.2.1,hf.2.2.1,hf.2.2.2.1,hf.2.2.2.2.1,hf.2.2.2.2.2.1,hf.2.2.2.2.2.2.1,by show l.length<_;omega,QnM h⟩
theorem QaG {l:List Pu} (hw:Qd s=0) (h:Q1 l) (hl:l.length≤60):Qd { s with purses:=l }=0:=by
 obtain ⟨h1,h2,h3,h4⟩:=Q0 hw
 have hp:Qbr l=0:=by
  have:=(QhQ (l:=l) fun p hp=>(h.ok p hp).2.2.2).2 ⟨hl,h⟩
  unfold QkL at this;simp at this;exact this.2
 have hd:Qja { s with purses:=l }=0:=(JS _).2 fun x hx=>by
  have:=(JS _).1 h4;simp at hx this;obtain ⟨g1,g2,g3,g4,g5,g6,g7⟩:=this
  rcases hx with rfl | rfl | rfl | rfl | rfl | rfl | rfl
  ·exact g1
  ·exact g2
  ·exact g3
  ·exact g4
  ·exact g5
  ·exact g6
  ·exact hp
 have hm:QaY { s with purses:=l }=false:=by simp [QaY] at h3 ⊢;omega
 unfold Qd;rw [if_neg (by simp [h1]),if_neg (by simp [h2.1,h2.2]),if_neg (by simp [hm])]
 exact hd
theorem JZ.only {base:Nat} {l:List Pu} (h:JZ base w v l) (O:JG g w w') (hg:g<base):JZ base w' v l :=
 Qf.keep h fun k hk=>O.same k (by have:=(Qf.own h k hk).1;omega)
theorem Qck {l:List Pu} (h:Zn w N s v1 v2 v3 v4 v5 v6 v7) (hN:N≤g) (hl:Qt PuR 3 w g v l):Zn w g { s with purses:=l } v1 v2 v3 v4 v5 v6 v :=
 have k:=h.mono hN
 ⟨k.clients,k.conns,k.chans,k.sent,k.got,k.acks,hl⟩
theorem Qn0 {l:List Pu} (h:Zn w N s v1 v2 v3 v4 v5 v6 v7):Zn w N { ({ s with purses:=l }:St) with purses:=[] } v1 v2 v3 v4 v5 v6 (Bc) :=
 ⟨h.clients,h.conns,h.chans,h.sent,h.got,h.acks,Qt.nil _ _ _ _⟩
theorem QqH {l:List Pc} {x:Bg} (h:YB l=.ok x):x.length≤20000:=by
 unfold YB at h
 split at h
 ·cases h
 ·refine (QoX _ _ _ _ h).2.2 ?_
  have:=Qc1 10 l.length (by simp;omega) (by omega)
  omega
theorem QgV (t:Tr):(QF t).length≤20000:=by
 unfold QF
 split
 ·rename_i x hx
  exact QqH hx
 ·simp
def ZQ (o:ByteArray):Bool:=Lib.hasPrefix o.data.toList [35]
def trN (t:Tr) (l:List ByteArray):Int:=if Jj (QF t)≠0 then Jj (QF t) else if l.any ZQ=true then 7 else 0
structure Out where
 st:St
 err:Int
 num:Int
 pk:Pk
abbrev Y8 (s:St) (e:Int):Out:=⟨s,e,0,Pk.none⟩
def Qbi (s:St) (t:Tr):Int:=if trN t [t.sender,t.reader]≠0 then trN t [t.sender,t.reader] else Qan s.purses t.sender t.reader t.denom t.amount
def Qjn (s:St) (t:Tr):St:=if Qbi s t=0 then { s with purses:=J6 s.purses t.sender t.reader t.denom t.amount } else St.none
def Qjm (s:St) (m:Ms):Out:=Y8 (Qjn s m.tr) (Qbi s m.tr)
def QqP (N base:Nat) (w:World) (x:Value) (O:Out):Prop:=∃ v od nd cd,x=.tuple #[v,.agg #[Bb O.err,Bb O.num,Bb O.pk.src,Bb O.pk.dst,Bb O.pk.seq,.slice od nd cd,Bb O.pk.tmo]]∧Qp N base w v O.st∧JU N base w (.agg #[Bb O.pk.src,Bb O.pk.dst,Bb O.pk.seq,.slice od nd cd,Bb O.pk.tmo]) O.pk
theorem JU.only {base:Nat} {w2:World} {t:Pk} (h:JU N base w v t) (O:JG g w w2) (h1:N≤g) (h2:g<base):JU N base w2 v t:=by grind [JU,JG,QK.on]
theorem JU.lower {base base':Nat} {t:Pk} (h:JU N base w v t) (hb:base'≤base):JU N base' w v t:=QK.wide h (fun _ hF=>⟨hF.1.imp id (by omega),hF.2⟩) (fun _ hF=>hF.2)
theorem JU.below {base:Nat} {w2:World} {t:Pk} (h:JU N base w v t) (hb:Bd w w2):JU N base w2 v t :=
 (QK.below h hb).wide (fun _ hF=>⟨hF.1,Br hF.2 hb.size⟩) (fun _ hF=>hF.2)
theorem JU.past {base:Nat} {w2:World} {t:Pk} (h:JU N base w v t) (hb:Below 0 w w2) (hk:∀ b,b<w.heap.size→b<N∨base≤b→w2.heap[b]?=w.heap[b]?):JU N base w2 v t :=
 (QK.on h hb fun b hF=>hk b hF.2 hF.1).wide (fun _ hF=>⟨hF.1,Br hF.2 hb.size⟩) (fun _ hF=>hF.2)
theorem Qp.open {base:Nat} {t:St} (h:Qp N base w v t):∃ o1 n1 c1 o2 n2 c2 o3 n3 c3 o4 n4 c4 o5 n5 c5 o6 n6 c6 o7 n7 c7,v=.agg #[.string t.name,Bb t.height,Bb t.time,.slice o1 n1 c1,.slice o2 n2 c2,.slice o3 n3 c3,.slice o4 n4 c4,.slice o5 n5 c5,.slice o6 n6 c6,.slice o7 n7 c7]:=by
 obtain ⟨o1,c1,o2,c2,o3,c3,o4,c4,o5,c5,o6,c6,o7,c7,rfl,-⟩:=h.now.open;exact ⟨o1,_,c1,o2,_,c2,o3,_,c3,o4,_,c4,o5,_,c5,o6,_,c6,o7,_,c7,rfl⟩
def Qvh (N B g:Nat) (s:St) (W:World):Prop:=∃ cells:Array Value,Qp N B W (.agg cells) s∧Row W g 28 cells.toList
def QtN (s:St) (O:Out):Out:=if Qd s≠0 then Y8 St.none (Qd s) else if O.err≠0 then Y8 s O.err else O
theorem Qrq (s:St) (m:Ms) (o:Nat→Option Addr) (c:Nat→Nat) (v:Value) (N:Nat) (w:World) (O:Out) (hv:StV w N v s) (hN:N≤w.heap.size) (z:s.fits)
  (E:Qd s=0→∀ W,Bd w W→Calls prog 31 #[v,.agg (msC m o c).toArray] W fun e w'=>Bd W w'∧∃ x,e=.returned x∧QqP N W.heap.size w' x O) :
  Calls prog 8 #[v,.agg (msC m o c).toArray] w fun e w'=>Bd w w'∧∃ x,e=.returned x∧QqP N w.heap.size w' x (QtN s O):=by
 have HW:=fun W (hb:Bd w W)=>Qda s v N W (hv.below (hb.mono hN)) (Bh hN hb.size) z
 have D:=fun (h0:Qd s=0) W (hb:Bd w W)=>Qlo s v N W (hv.below (hb.mono hN)) (Bh hN hb.size) z (QG h0)
 have HD:QtN s O=if Qd s≠0 then Y8 St.none (Qd s) else if O.err≠0 then Y8 s O.err else O:=rfl
 obtain ⟨o1,c1,o2,c2,o3,c3,o4,c4,o5,c5,o6,c6,o7,c7,rfl,-⟩:=hv.open
 go_in
 go_upto_region 1 with fail
 refine Qai ?_;intro w0 F0 hs
 go_wp2_with (refine F0.load 0 rfl Qa ?_)
 refine (HW _ F0.b).mono ?_;rintro e w1 ⟨rfl,Y⟩;have F1:=F0.go Y
 by_cases hz:Qd s=0
 ·replace HD:=hid (HD.trans (if_neg (by simp [hz])))
  replace E:=hid (E hz);replace D:=hid (D hz);rw [hz]
  go_wp2_with (first | refine F1.load 0 rfl Qa ?_ | refine F1.load 1 rfl Z0 ?_)
  refine (E _ F1.b).mono ?_;rintro e w2 ⟨I,x,rfl,v',od,nd,cd,rfl,hh,hp⟩;have F2:=F1.go I;have l3:=F1.r3.lt;have G:=hid F1.b.size;obtain ⟨a1,b1,d1,a2,b2,d2,a3,b3,d3,a4,b4,d4,a5,b5,d5,a6,b6,d6,a7,b7,d7,rfl⟩:=hh.open;have hb2s:=I.size
  go_upto_region 5 with (first | (refine FrB.store ((F2.addAt (t:=28) (cs:=[.string ⟨#[]⟩,Bb 0,Bb 0,Bc,Bc,Bc,Bc,Bc,Bc,Bc]) rfl).addAt (t:=58) (cs:=[Bb 0,Bb 0,Bb 0,Bb 0,Bb 0,Bc,Bb 0]) (g:=w2.heap.size+1) (by simp)) 4 rfl Qa (by simp) ?_;intro w3 F3 O3) | (refine F3.store 5 rfl QB (by simp) ?_;intro w4 F4 O4))
  have aA:=O3.down (((Bi w2.heap.size w2).alloc (Bj _) _).alloc (by simp) _) (Bj _)
  have L:=O4.down aA (by omega)
  replace hh:=hid (hh.below L);replace hp:=hid (hp.below L);have S:=hid F4.b.size;have y0:w4.cell? ⟨w2.heap.size+1,0,none⟩=some (Bb O.err):=F4.r5.cell 0
  by_cases hz:O.err=0
  ·rw [if_neg (by simp [hz])] at HD
   have HZ:=hid hz;have aC:(O.err != 0)=false:=by simpa using hz
   clear hz
   go_upto_region 7 with fail
   have aB:=F4.r3.lt
   have HR:=hid (show Rel (Wr [w.heap.size+1+1,w.heap.size+1+1+1] [fun W=>Row W (w.heap.size+1+1) 28 [.string O.st.name,Bb O.st.height,Bb O.st.time,.slice a1 b1 d1,.slice a2 b2 d2,.slice a3 b3 d3,.slice a4 b4 d4,.slice a5 b5 d5,.slice a6 b6 d6,.slice a7 b7 d7],fun W=>Row W (w.heap.size+1+1+1) 58 [Bb O.err,Bb O.num,Bb O.pk.src,Bb O.pk.dst,Bb O.pk.seq,.slice od nd cd,Bb O.pk.tmo],Sp (w.heap.size+1+1) 28 10,Sp (w.heap.size+1+1+1) 58 7]) from Wr.rel (by
    intro A hA W W' hb h;simp only [Bo,BL,BN] at hA
    rcases hA with rfl | rfl | rfl | rfl
    ·exact Row.below h hb (Row.lt h)
    ·exact Row.below h hb (Row.lt h)
    ·exact Sp.low hb h
    ·exact Sp.low hb h))
   have S2:Sp (w.heap.size+1+1) 28 10 w4:=⟨_,F4.r2,rfl⟩;have S3:Sp (w.heap.size+1+1+1) 58 7 w4:=⟨_,F4.r3,rfl⟩;apply QhP HR.out (by kernel_rfl) (fun W hb=>And.intro (hb.row F4.r4 (by simp;omega)).k10 (hb.row F4.r5 (by simp;omega)).k7) (by kernel_rfl)
   ·intro σ;simp [Qj];exact rfl
   iterate 2 (apply RS.val HR.out rfl;· intro σ W hb hc ⟨hd,hu⟩;simp at hd hu;go_simp;exact rfl)
   apply RS.store (fun W=>Row W (w.heap.size+1+1) 28 [.string O.st.name,Bb O.st.height,Bb O.st.time,.slice a1 b1 d1,.slice a2 b2 d2,.slice a3 b3 d3,.slice a4 b4 d4,.slice a5 b5 d5,.slice a6 b6 d6,.slice a7 b7 d7]) (fun W W' hb h=>hb.2.2 (fun W=>Row W (w.heap.size+1+1) 28 [.string O.st.name,Bb O.st.height,Bb O.st.time,.slice a1 b1 d1,.slice a2 b2 d2,.slice a3 b3 d3,.slice a4 b4 d4,.slice a5 b5 d5,.slice a6 b6 d6,.slice a7 b7 d7]) (by simp) h) rfl rfl (fun W hb=>hb.2.2 _ (by simp) S2) Qa
   ·intro σ W hb hc ⟨hd,hu⟩
    have e0:σ 0=.agg #[.string O.st.name,Bb O.st.height,Bb O.st.time,.slice a1 b1 d1,.slice a2 b2 d2,.slice a3 b3 d3,.slice a4 b4 d4,.slice a5 b5 d5,.slice a6 b6 d6,.slice a7 b7 d7]:=hd ⟨0,.data⟩ (by simp) (by decide)
    refine ⟨_,rfl,e0,rfl,by simp,fun W' g2 g3=>⟨Wr.write g2 (by simp) ?_,g3⟩⟩
    intro A hA h;simp only [Bo,BL,BN] at hA
    rcases hA with rfl | rfl | rfl | rfl
    ·exact g3
    ·exact (g2.same _ (by omega)).trans h
    ·exact ⟨_,g3,rfl⟩
    ·exact Sp.only g2 (by omega) h
   apply RS.store (fun W=>Row W (w.heap.size+1+1+1) 58 [Bb O.err,Bb O.num,Bb O.pk.src,Bb O.pk.dst,Bb O.pk.seq,.slice od nd cd,Bb O.pk.tmo]) (fun W W' hb h=>hb.2.2 (fun W=>Row W (w.heap.size+1+1+1) 58 [Bb O.err,Bb O.num,Bb O.pk.src,Bb O.pk.dst,Bb O.pk.seq,.slice od nd cd,Bb O.pk.tmo]) (by simp) h) rfl rfl (fun W hb=>hb.2.2 _ (by simp) S3) QB
   ·intro σ W hb hc ⟨hd,hu⟩
    have e1:σ 1=.agg #[Bb O.err,Bb O.num,Bb O.pk.src,Bb O.pk.dst,Bb O.pk.seq,.slice od nd cd,Bb O.pk.tmo]:=hd ⟨1,.data⟩ (by simp) (by decide)
    refine ⟨_,rfl,e1,rfl,by simp,fun W' g2 g3=>⟨Wr.write g2 (by simp) ?_,g3⟩⟩
    intro A hA h;simp only [Bo,BL,BN] at hA
    rcases hA with rfl | rfl | rfl | rfl
    ·exact (g2.same _ (by omega)).trans h
    ·exact g3
    ·exact Sp.only g2 (by omega) h
    ·exact ⟨_,g3,rfl⟩
   intro σ W hb _;simp only [Jm,Bv,Bz,Nat.reduceAdd];intro hF;obtain ⟨-,-,h2,h3,-⟩:=hF;have C:=F4.b.trans (hb.below (by omega) (by simp;omega))
   have H1:=hh.on hb.1 fun b j hF=>hb.2.1 b j (by simp;omega)
   have H4:=hp.past hb.1 fun b j hF=>hb.2.1 b j (by simp;omega)
   go_wp2;refine Qa3 results8 rfl h2 Qa rfl h3 QB rfl ⟨C,_,rfl,?_⟩;rw [HD];exact ⟨_,od,nd,cd,rfl,H1.lower G.out,H4.lower G.out⟩
  ·rw [if_pos hz] at HD
   have aC:(O.err != 0)=true:=by simpa using hz
   go_upto_region 6 with fail
   have aB:=F4.r3.lt
   have HR:=hid (show Rel (Wr [w.heap.size+1+1,w.heap.size+1+1+1] [Qvh N w4.heap.size (w.heap.size+1+1) s,fun W=>Row W (w.heap.size+1+1+1) 58 [Bb O.err,Bb 0,Bb 0,Bb 0,Bb 0,Bc,Bb 0],Sp (w.heap.size+1+1) 28 10,Sp (w.heap.size+1+1+1) 58 7]) from Wr.rel (by
    intro A hA W W' hb h;simp only [Bo,BL,BN] at hA
    rcases hA with rfl | rfl | rfl | rfl
    ·obtain ⟨d,h1,h2⟩:=h;exact ⟨d,h1.below hb,h2.below hb h2.lt⟩
    ·exact Row.below h hb (Row.lt h)
    ·exact Sp.low hb h
    ·exact Sp.low hb h))
   have S2:Sp (w.heap.size+1+1) 28 10 w4:=⟨_,F4.r2,rfl⟩;have S3:Sp (w.heap.size+1+1+1) 58 7 w4:=⟨_,F4.r3,rfl⟩;apply QhP HR.out (by kernel_rfl) (fun W hb=>And.intro (hb.row F4.r0 (by simp;omega)).k10 ((hb.row F4.r5 (by simp;omega)).cell 0)) (by kernel_rfl)
   ·intro σ;simp [Qj];exact rfl
   apply RS.val HR.out rfl;· intro σ W hb hc ⟨hd,hu⟩;simp at hd hu;go_simp;exact rfl
   apply RS.callG (fun X W=>Qp N w4.heap.size W X s) (fun _ W W' hb h=>h.on hb.1 fun b j hF=>hb.2.1 b j (by simp;omega)) rfl
   ·intro σ W hb hc ⟨hd,hu⟩;simp at hd hu
    refine ⟨_,_,by go_simp <;> first | exact rfl | exact ⟨rfl,rfl⟩,(D W (F4.b.trans (hb.below (by omega) (by simp;omega)))).mono ?_⟩
    rintro e w' ⟨T,p1,d1,p2,d2,p3,d3,p4,d4,p5,d5,p6,d6,p7,d7,rfl,M⟩;exact ⟨_,rfl,HR.out.low _ _ T,M.holds.lower hb.1.size⟩
   iterate 3 (apply RS.val HR.out rfl;· intro σ W hb hc ⟨hd,hu⟩;simp at hd hu;go_simp;exact rfl)
   apply RS.store (Qvh N w4.heap.size (w.heap.size+1+1) s) (fun W W' hb h=>hb.2.2 _ (by simp) h) rfl rfl (fun W hb=>hb.2.2 _ (by simp) S2) Qa
   ·intro σ W hb hc ⟨hd,hu⟩
    have q:Qp N w4.heap.size W (σ 1) s:=hd ⟨1,.data⟩ (by simp) (by decide)
    obtain ⟨p1,q1,r1,p2,q2,r2,p3,q3,r3,p4,q4,r4,p5,q5,r5,p6,q6,r6,p7,q7,r7,e1⟩:=q.open;rw [e1] at q;refine ⟨_,rfl,e1,rfl,by simp,fun W' g2 g3=>⟨Wr.write g2 (by simp) ?_,_,q.only g2 (by omega) (by omega),g3⟩⟩
    intro A hA h;simp only [Bo,BL,BN] at hA
    rcases hA with rfl | rfl | rfl | rfl
    ·exact ⟨_,q.only g2 (by omega) (by omega),g3⟩
    ·exact (g2.same _ (by omega)).trans h
    ·exact ⟨_,g3,rfl⟩
    ·exact Sp.only g2 (by omega) h
   apply RS.store (fun W=>Row W (w.heap.size+1+1+1) 58 [Bb O.err,Bb 0,Bb 0,Bb 0,Bb 0,Bc,Bb 0]) (fun W W' hb h=>hb.2.2 (fun W=>Row W (w.heap.size+1+1+1) 58 [Bb O.err,Bb 0,Bb 0,Bb 0,Bb 0,Bc,Bb 0]) (by simp) h) rfl rfl (fun W hb=>hb.2.2 _ (by simp) S3) QB
   ·intro σ W hb hc ⟨hd,hu⟩
    have e4:σ 4=.agg #[Bb O.err,Bb 0,Bb 0,Bb 0,Bb 0,Bc,Bb 0]:=hd ⟨4,.data⟩ (by simp) (by decide)
    refine ⟨_,rfl,e4,rfl,by simp,fun W' g2 g3=>⟨Wr.write g2 (by simp) ?_,g3⟩⟩
    intro A hA h;simp only [Bo,BL,BN] at hA
    rcases hA with rfl | rfl | rfl | rfl
    ·obtain ⟨d,h1,h2⟩:=h;exact ⟨d,h1.only g2 (by omega) (by omega),(g2.same _ (by omega)).trans h2⟩
    ·exact g3
    ·exact Sp.only g2 (by omega) h
    ·exact ⟨_,g3,rfl⟩
   intro σ W hb _;simp only [Jm,Bv,Bz,Nat.reduceAdd];intro hF;obtain ⟨-,-,-,-,-,⟨d,h1,h2⟩,h3,-⟩:=hF;have C:=F4.b.trans (hb.below (by omega) (by simp;omega))
   obtain ⟨p1,q1,r1,p2,q2,r2,p3,q3,r3,p4,q4,r4,p5,q5,r5,p6,q6,r6,p7,q7,r7,e1⟩:=h1.open;obtain rfl:d=_:=(DA e1);go_wp2;refine Qa3 results8 rfl h2 Qa rfl h3 QB rfl ⟨C,_,rfl,?_⟩;rw [HD];exact ⟨_,none,0,0,rfl,h1.lower S.out,Jp _ _ _⟩
 ·replace HD:=hid (HD.trans (if_pos hz))
  generalize Qd s=ws at *
  go_wp2_with (first | (refine F1.store 2 rfl Qa (by simp) ?_;intro w3 F3 O3) | (refine F3.store 3 rfl QB (by simp) ?_;intro w4 F4 O4))
  refine Qa3 results8 rfl F4.r2 Qa rfl F4.r3 QB rfl ⟨F4.b,_,rfl,?_⟩;rw [HD];exact ⟨_,none,0,0,rfl,Qg _ _ _,Jp _ _ _⟩
end Go.Proofs.YtnedafiokmjkkaaGreatDoor
