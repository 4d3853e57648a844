/- What a packet carried is its sender's again. -/
import Derived.Test.YtnedafiokmjkkaaGreatDoorsaApMath
import Derived.Test.YtnedafiokmjkkaaGreatDoorsaCoAdd
import Derived.Deep.Cut
namespace Go.Proofs.YtnedafiokmjkkaaGreatDoor
open Tryz
set_option maxRecDepth 1000000
set_option maxHeartbeats 8000000
open Go.RowKit
variable {a:Act} {w w' w1:World} {Q:Exit→Act→World→Prop} {N g i:Nat} {t ty:TypeId} {x:Operand} {cs r xs:List Value} {fn:Func} {R:Ending→World→Prop} {c0 sv v v1 v2 v3 v4 v5 v6 v7:Value} {rs:List (List Value)} {s:St}
theorem Qg1 (o:ByteArray) (w:World):Calls prog 116 #[.string o] w fun e w'=>e=.returned (.bool (ZW o))∧Bd w w':=by
 have HP:=hid (show ∀ W,Calls prog 123 #[.string o,.string ⟨#[35]⟩] W fun e w'=>e=.returned (.bool (ZW o))∧Bd W w' from fun W=>Qeq o ⟨#[35]⟩ W)
 go_in
 go_wp2_with fail
 refine (HP.out w).mono ?_;rintro e w1 ⟨rfl,hb⟩;have HB:=hid hb;clear hb;go_wp2;go_ret;exact ⟨rfl,HB.out⟩
def Qv9 (ss:List ByteArray) (i:Int):Prop:=(i = -1∧ss.any ZW=false)∨(0≤i∧ss.any ZW=true)
theorem QiQ (ss:List ByteArray) (g n:Nat) (w:World) (hr:Row w g 9 (ss.map Value.string)) (hn:n=ss.length) (hl:n≤10) :
  Calls prog 151 #[.slice (some ⟨g,0,none⟩) n n,.func (.func 116) #[] #[]] w fun e w'=>Bd w w'∧∃ i:Int,e=.returned (Bb i)∧Qv9 ss i:=by
 have z:=hid hr;have HN:=hid hn;have C:=hr.lt;clear hr hn
 go_in
 go_wp2_with fail
 go_loopw [5,8] (fun _ s8 wr=>∃ k:Nat,k≤n∧s8=Bb (k:Int)∧Hid (Bd w wr∧∀ x∈ss.take k,ZW x=false)) (fun _ s8 _=>n-(intOf s8).toNat)
 case atStart=>exact ⟨0,BF _,rfl,hid ⟨Bi _ _,by simp⟩⟩
 case round =>
  obtain ⟨k,hk,rfl,HR⟩:=hrel;have m:=HR.out.1.size
  by_cases D:k<n
  ·have hlt':(k:Int)<(n:Int):=by omega
   obtain ⟨x,hx⟩:∃ x,ss[k]?=some x:=⟨ss[k]'(by rw [← HN.out];exact D),Bk _⟩
   have f0:=(HR.out.1.cell (p:=⟨g,k,none⟩) C).trans ((z.out.cell k).trans (show (ss.map Value.string)[k]?=some (.string x) by simp [hx]))
   have HF:=hid (Qg1 x wr);have HX:=hid hx;clear hx
   cases b:ZW x with
   | true =>
    have HE:=hid b;rw [b] at HF;clear b
    go_wp2_with fail
    refine HF.out.mono ?_;rintro e w5 ⟨rfl,j⟩;have q:=hid (HR.out.1.trans (j.mono m));clear j;go_wp2;go_ret;exact ⟨q.out,_,rfl,.inr ⟨by omega,List.any_eq_true.2 ⟨x,Bn HX.out,HE.out⟩⟩⟩
   | false =>
    have HE:=hid b;rw [b] at HF
    have A:=hid (show ∀ y∈ss.take (k+1),ZW y=false from fun y hy=>by
     rw [Dh,HX.out] at hy
     rcases Bw.1 hy with hy | hy
     ·exact HR.out.2 y hy
     ·obtain rfl:y=x:=by simpa using hy
      exact HE.out)
    clear b
    go_wp2_with fail
    refine HF.out.mono ?_;rintro e w5 ⟨rfl,j⟩;have q:=hid (HR.out.1.trans (j.mono m));clear j;go_wp2;go_roundw
    case rel=>exact ⟨k+1,by omega,by go_num,hid ⟨q.out,A.out⟩⟩
    case measure=>simp [intOf];omega
  ·have hge:decide ((k:Int)<(n:Int))=false:=by simp;omega
   go_wp2;go_ret;refine ⟨HR.out.1,_,rfl,.inl ⟨rfl,List.any_eq_false.2 fun x hx=>?_⟩⟩
   rw [HR.out.2 x (by rw [BA (by rw [← HN.out];omega)];exact hx)]
   exact Bool.false_ne_true
theorem Qls (ss:List ByteArray) (g n:Nat) (w:World) (hr:Row w g 9 (ss.map Value.string)) (hn:n=ss.length) (hl:n≤10) :
  Calls prog 115 #[.slice (some ⟨g,0,none⟩) n n,.func (.func 116) #[] #[]] w fun e w'=>e=.returned (.bool (ss.any ZW))∧Bd w w':=by
 have HC:=hid (QiQ ss g n w hr hn hl);clear hr hn
 go_in
 go_wp2_with fail
 refine HC.out.mono ?_;rintro e w1 ⟨hb,i,rfl,hi⟩;have HB:=hid hb
 have HI:=hid (show decide (0≤i)=ss.any ZW by
  rcases hi with ⟨rfl,h⟩ | ⟨h1,h⟩
  ·rw [h];rfl
  ·rw [h];simpa using h1)
 clear hb hi;go_wp2;go_ret;exact ⟨by rw [← HI.out];rfl,HB.out⟩
theorem Qo9 (t:Tr) (ss:List ByteArray) (g n:Nat) (w:World) (ht:t.fits) (hr:Row w g 9 (ss.map Value.string)) (hn:n=ss.length) (hl:n≤10) :
  Calls prog 89 #[.agg #[.string t.denom,.int .u64 (t.amount:Int),.string t.sender,.string t.reader],.slice (some ⟨g,0,none⟩) n n] w fun e w'=>e=.returned (Bb (trN t ss))∧Bd w w':=by
 have G:=hid (fun W=>Qg3 t W ht)
 have L:=hid (fun (sv:Value) (W:World) (hb:Bytes W W.heap.size sv (QF t))=>QfS (QF t) sv W.heap.size W hb (Bj _) (by have:=Qg4 t;omega))
 have I:=hid (fun W (hb:Bd w W)=>Qls ss g n W (hr.below hb hr.lt) hn hl)
 have HE:=hid (show trN t ss=if Jg (QF t)≠0 then Jg (QF t) else if ss.any ZW=true then 7 else 0 from rfl)
 clear hr hn ht
 go_in
 go_upto_region 1 with fail
 refine JQ ?_;intro w0 F0 hs;clear hs;obtain ⟨k0,k1,k2,k3⟩:=F0.r0.k4
 go_wp2_with fail
 refine (G.out _).mono ?_;rintro e w1 ⟨C,v1,rfl,z⟩;have F1:=F0.go C;have A:=hid z;obtain ⟨o1,c1,rfl,-⟩:=z.shape;clear C z k0 k1 k2 k3 F0
 go_wp2_with fail
 refine (L.out _ w1 A.out).mono ?_;rintro e w2 ⟨rfl,D⟩;have F2:=F1.go D;clear D F1 A
 by_cases hz:Jg (QF t)=0
 ·rw [hz] at HE ⊢
  have j:=hid (HE.out.trans (if_neg (by simp)))
  clear hz HE;unfold trV
  go_upto_region 2 with fail
  refine F2.box ?_;intro w3 F3 q m;clear q m F2
  go_wp2_with fail
  refine (I.out _ F3.b).mono ?_;rintro e w4 ⟨rfl,E⟩;have HB:=hid (F3.go E).b;clear E F3
  cases ha:ss.any ZW with
  | true =>
   rw [ha] at j;clear ha;go_wp2;go_ret;exact ⟨by rw [j.out];rfl,HB.out⟩
  | false =>
   rw [ha] at j;clear ha;go_wp2;go_ret;exact ⟨by rw [j.out];rfl,HB.out⟩
 ·have j:=hid (HE.out.trans (if_pos hz))
  have hz':(Jg (QF t) == 0)=false:=by simpa using hz
  generalize Jg (QF t)=pe at *;have hd:decide (pe=0)=false:=by simpa using hz
  clear HE;unfold trV
  go_upto_region 2 with fail
  refine F2.box ?_;intro w3 F3 q m;clear q m F2;have HB:=hid F3.b;clear F3;go_wp2;go_ret;exact ⟨by rw [j.out];rfl,HB.out⟩
theorem Z7: Qx 53 62:=⟨⟨_,underlying53,rfl⟩,by kernel_rfl⟩
theorem QC: Qx 58 7:=⟨⟨_,underlying58,rfl⟩,by kernel_rfl⟩
theorem Qik: Qx 49 4:=⟨⟨_,underlying49,rfl⟩,by kernel_rfl⟩
theorem FrB.loadMid {b:Array Oper} {rest:List Oper} {op:Oper} {l:List Bx} (F:Fr w l w1) (i o:Nat) (ds:List Value) (e:op.guard=none) (ho:op.op=.load ty x) (hx:a.eval x=.pointer (some ⟨g,o,none⟩)) (hi:l[i]?=some (g,t,cs)) (hc:(cs.drop o).take ds.length=ds) (hs:Qx ty ds.length)
  (h:wpList prog b Q rest (a.put op.dst (.agg ds.toArray)) w1):wpList prog b Q (op :: rest) a w1:=by
 obtain ⟨⟨d,hu,hd⟩,hz⟩:=hs;refine wpList_load_mid e ty x ho g o hx ds d (fun j v hj=>?_) hu (by cases d <;> first | rfl | cases hd) hz h
 have hr:Row w1 g t cs:=F.rows _ (Bn hi);refine (hr.cell (o+j)).trans ?_;rw [← hc,BE] at hj
 split at hj
 ·rw [Co] at hj
  exact hj
 ·cases hj
theorem Qbc {s u h:Nat} (hf:fn.results=#[.cell s t,.cell u ty]) (hs:a.tmps.getD s undef=.pointer (some ⟨g,0,none⟩)) (hr:Row w g t cs) (ht:Qx t cs.length) (hu:a.tmps.getD u undef=.pointer (some ⟨h,0,none⟩)) (b:Row w h ty xs) (e:Qx ty xs.length) (hd:a.defers=[]) (hR:R (.returned (.tuple #[.agg cs.toArray,.agg xs.toArray])) w):bodyPost prog fn R .ret a w:=by
 have hs':a.tmps[s]?.getD undef=.pointer (some ⟨g,0,none⟩):=by simpa using hs
 have hu':a.tmps[u]?.getD undef=.pointer (some ⟨h,0,none⟩):=by simpa using hu
 exact BG (by simp [results,hf,hs',hu',asAddr,Yr hr ht,Yr b e]) hd hR
theorem QcW (nm:ByteArray) (hh tt:Int) (o0 o1 o2 o3 o4 o5 o6:Option Addr) (n0 n1 n2 n3 n4 n5 n6 c0 c1 c2 c3 c4 c5 c6:Nat) (e:Int) (w:World) :
  Calls prog 48 #[.agg #[.string nm,Bb hh,Bb tt,.slice o0 n0 c0,.slice o1 n1 c1,.slice o2 n2 c2,.slice o3 n3 c3,.slice o4 n4 c4,.slice o5 n5 c5,.slice o6 n6 c6],Bb e] w fun x w'=>x=.returned (.tuple #[.agg #[.string nm,Bb hh,Bb tt,.slice o0 n0 c0,.slice o1 n1 c1,.slice o2 n2 c2,.slice o3 n3 c3,.slice o4 n4 c4,.slice o5 n5 c5,.slice o6 n6 c6],.agg #[Bb e,Bb 0,Bb 0,Bb 0,Bb 0,Bc,Bb 0]])∧Bd w w':=by
 go_in
 go_upto_region 1 with fail
 refine JR ?_;intro w0 F0 hs;clear hs
 go_wp2_with (first | refine F0.load 0 rfl Qa ?_ | (refine F0.store 1 rfl Qa (by simp) ?_;intro w1 F1 O1) | (refine F1.store 2 rfl QC (by simp) ?_;intro w2 F2 O2))
 exact Qbc results48 rfl F2.r1 Qa rfl F2.r2 QC rfl ⟨rfl,F2.b⟩
theorem Qsk (nm:ByteArray) (hh tt:Int) (o0 o1 o2 o3 o4 o5 o6:Option Addr) (n0 n1 n2 n3 n4 n5 n6 c0 c1 c2 c3 c4 c5 c6:Nat) (i e:Int) (w:World) :
  Calls prog 46 #[.agg #[.string nm,Bb hh,Bb tt,.slice o0 n0 c0,.slice o1 n1 c1,.slice o2 n2 c2,.slice o3 n3 c3,.slice o4 n4 c4,.slice o5 n5 c5,.slice o6 n6 c6],Bb i,Bb e] w fun x w'=>x=.returned (.tuple #[.agg #[.string nm,Bb hh,Bb tt,.slice o0 n0 c0,.slice o1 n1 c1,.slice o2 n2 c2,.slice o3 n3 c3,.slice o4 n4 c4,.slice o5 n5 c5,.slice o6 n6 c6],.agg #[Bb e,Bb i,Bb 0,Bb 0,Bb 0,Bc,Bb 0]])∧Bd w w':=by
 go_in
 go_upto_region 1 with fail
 refine JR ?_;intro w0 F0 hs;clear hs
 go_wp2_with (first | refine F0.load 0 rfl Qa ?_ | (refine F0.store 1 rfl Qa (by simp) ?_;intro w1 F1 O1) | (refine F1.store 2 rfl QC (by simp) ?_;intro w2 F2 O2))
 exact Qbc results46 rfl F2.r1 Qa rfl F2.r2 QC rfl ⟨rfl,F2.b⟩
theorem Qmi (ps:List (List Value)) (i:Nat) (x0 x1 x2:Value) (base vb:Nat) (v:Value) (w:World) (h:Qf 90 3 w base v ps) (hb:base≤w.heap.size) (hv:Row w vb 90 [x0,x1,x2]) (h1:x0.oneCell'=true∧x1.oneCell'=true∧x2.oneCell'=true)
  (j:∀ g,v.ownBlock=some g→vb≠g) (hi:i≤ps.length) (hl:ps.length≤1000) :
  Calls prog 154 #[v,Bb (i:Int),.slice (some ⟨vb,0,none⟩) 1 1] w fun e w'=>w.grownBy w' v.ownBlock∧∃ v',e=.returned v'∧Qf 90 3 w' base v' (Qc3 ps i [x0,x1,x2])∧∀ b,v'.ownBlock=some b→v.ownBlock=some b∨w.heap.size≤b :=
 QoU.2.1 Qn7 QsB.2.1 ps i _ base vb v w h hb hv (fun r hr=>by obtain rfl:=BQ.1 hr;exact ⟨rfl,by simpa using h1⟩) j hi hl
theorem Row.k11 {b:Value} (h:Row w g t [v,v4,v5,v6,v2,v3,v7,v1,sv,c0,b]):w.cell? ⟨g,0,none⟩=some v∧w.cell? ⟨g,1,none⟩=some v4∧w.cell? ⟨g,2,none⟩=some v5∧w.cell? ⟨g,3,none⟩=some v6∧w.cell? ⟨g,4,none⟩=some v2∧w.cell? ⟨g,5,none⟩=some v3∧w.cell? ⟨g,6,none⟩=some v7∧w.cell? ⟨g,7,none⟩=some v1∧w.cell? ⟨g,8,none⟩=some sv∧w.cell? ⟨g,9,none⟩=some c0∧w.cell? ⟨g,10,none⟩=some b :=
 ⟨h.cell 0,h.cell 1,h.cell 2,h.cell 3,h.cell 4,h.cell 5,h.cell 6,h.cell 7,h.cell 8,h.cell 9,h.cell 10⟩
theorem Qj: Qx 173 11:=⟨⟨_,underlying173,rfl⟩,by kernel_rfl⟩
theorem Qh: Qx 51 5:=⟨⟨_,underlying51,rfl⟩,by kernel_rfl⟩
theorem QlX (h:Bd w w1) (r:Option Nat):w.grownBy w1 r:=⟨h.os,h.tape,h.output,h.size,fun k hk _=>h.block k hk⟩
theorem MkE.set {l:List Mk} (h:MkE w rs l) {x:Mk} (hr:MkR w w.heap.size r x):MkE w (rs.set i r) (l.set i x):=by grind [MkE]
theorem MkE.ins {l:List Mk} (h:MkE w rs l) {x:Mk} (hi:i≤l.length) (hr:MkR w w.heap.size r x):MkE w (Qc3 rs i r) (l.take i ++ x :: l.drop i):=by grind [MkE,Qc3]
theorem MkE.del {l:List Mk} (h:MkE w rs l) (hi:i<l.length):MkE w (rs.take i ++ rs.drop (i+1)) (l.take i ++ l.drop (i+1)):=by grind [MkE]
theorem Ys (b:Bg):(QQ b).amount<18446744073709551616∧(QQ b).denom.size≤140737488351232:=by
 unfold QQ Qco
 split
 ·rename_i t h
  split at h
  ·rename_i m hm
   have e:=(Qu2 b m hm).2.2;unfold QdA at h
   split at h
   ·split at h
    ·split at h
     ·cases h
     ·rename_i hw
      split at h
      ·cases h
      ·injection h with h
       subst h;rename_i p0 p1 p2 p3 _ _;have h1:=(e p1 (by simp)).1
       simp [QH] at hw;exact ⟨by unfold Pc.ok at h1;omega,by have:=hw.1;show (Qbg p0.b).size≤_;omega⟩
    ·cases h
   ·cases h
  ·cases h
 ·exact ⟨by show 0<_;omega,by show 0≤_;omega⟩
theorem Qp.purses {base base':Nat} {x z:Value} {l:List Pu} (h:Qp N base w (.agg #[x,v,z,v1,v2,v3,v4,v5,v6,v7]) s) (hb:Bd w w') (hl:J3 base' w' sv l) (q:base≤base'):Qp N base w' (.agg #[x,v,z,v1,v2,v3,v4,v5,v6,sv]) { s with purses:=l }:=by
 refine ⟨fun b hF=>hF.2,fun w2 m hk=>?_⟩
 obtain ⟨u1,u2,u3,u4,u5,u6,u7,e,hm⟩:=((h.below hb).on m fun b A hF=>hk b ⟨hF,A⟩).now
 have h3:J3 base' w2 sv l:=Qf.keep hl fun k j=>hk k ⟨.inr (Bh q (Qf.own hl k j).1),(Qf.own hl k j).2⟩
 simp only [BW,BN,BL,BO] at e;obtain ⟨rfl,rfl,rfl,rfl,rfl,rfl,rfl,rfl,rfl,rfl⟩:=e;exact ⟨_,_,_,_,_,_,_,rfl,Qct hm (Bj _) h3.now⟩
theorem Qlu (s:St) (p:Pk) (k:Nat) (v pv:Value) (N base M:Nat) (w:World) (hv:Qp N base w v s) (hp:PkV w M pv p) (hM:M≤w.heap.size) (D:base≤w.heap.size) (hU:s.purses.length≤60∧QT s.purses) (Y:p.data.length≤140737488351232) (hk:p.src=(k:Int)) (I:k≤9223372036854775807) (m:QL w) :
  Calls prog 97 #[v,pv] w fun e w'=>Bd w w'∧∃ v',e=.returned (.tuple #[v',Bb (Y8 s p)])∧Qp N base w' v' (JH s p):=by
 obtain ⟨od,cd,rfl,hd⟩:=hp.open;obtain ⟨o1,c1,o2,c2,o3,c3,o4,c4,o5,c5,o6,c6,o7,c7,rfl,hm⟩:=hv.now.open;have C:=hid (fun W (hb:Bd w W)=>QfS p.data (.slice od p.data.length cd) M W (hd.below (hb.mono hM)) (Bh hM hb.size) (by omega))
 have A:=hid (show ∀ W,Bd w W→Calls prog 134 #[.slice o7 s.purses.length c7,Bb p.src,.agg #[.string (QQ p.data).denom,.int .u64 ((QQ p.data).amount:Int),.string (QQ p.data).sender,.string (QQ p.data).reader]] W fun e w'=>Bd W w'∧∃ v,e=.returned (.tuple #[v,Bb (QcB s.purses k (QQ p.data))])∧J3 W.heap.size w' v (QcT s.purses k (QQ p.data)) from fun W hb=>by
  rw [hk]
  exact Qrj s.purses k (QQ p.data) _ w.heap.size W (m.below hb) hb.size (hm.below hb).purses hU.2 hU.1 (Ys p.data).1 I)
 have HE:=hid (show Y8 s p=if Jg p.data≠0 then 0 else QcB s.purses k (QQ p.data) by unfold Y8;rw [hk];rfl)
 have j:=hid (show JH s p=if Jg p.data≠0 then s else if QcB s.purses k (QQ p.data)=0 then { s with purses:=QcT s.purses k (QQ p.data) } else St.none by unfold JH;rw [hk];rfl)
 have HV:=hid hv;have O:=hid D;clear hp hm hv hU Y hk I m hd hM D;generalize p.data.length=dl,s.purses.length=pl,s.clients.length=n1,s.conns.length=n2,s.chans.length=n3,s.sent.length=n4,s.got.length=n5,s.acks.length=n6 at *;generalize QQ p.data=t at *
 go_in
 go_upto_region 1 with fail
 refine JR ?_;intro w0 F0 hs;clear hs;have p3:=F0.r1.k5.2.2.2.1
 go_wp2_with fail
 refine (C.out _ F0.b).mono ?_;rintro e w1 ⟨rfl,E⟩;have F1:=F0.go E;clear E F0 C p3
 by_cases hz:Jg p.data=0
 ·rw [hz] at HE j ⊢
  rw [if_neg (by simp)] at HE j
  clear hz;unfold trV
  go_upto_region 2 with fail
  refine F1.box ?_;intro w2 F2 z q;clear z q F1;have k9:=F2.r0.k10.2.2.2.2.2.2.2.2.2;have p0:=F2.r1.k5.1;obtain ⟨a0,a1,a2,a3⟩:=F2.r3.k4
  go_wp2_with fail
  refine (A.out _ F2.b).mono ?_;rintro e w3 ⟨G,uv,rfl,hu⟩;have F3:=F2.go G;have HU:=hid hu;have l2:=F2.r2.lt;have S:=hid F2.b.size;obtain ⟨ou,cu,rfl,-⟩:=hu.shape;clear G hu k9 p0 a0 a1 a2 a3 F2 A;generalize QcB s.purses k t=be at *;generalize hL:QcT s.purses k t=L at *;generalize L.length=LL at *;have k9:=F3.r0.k10.2.2.2.2.2.2.2.2.2;have z9:=F3.r0.frozen 9
  go_upto_region 5 with fail
  refine F3.cell 0 rfl ?_;intro w4 F4 O4;have T:=hid (HU.out.only O4 (by omega))
  clear k9 z9 O4 HU F3
  by_cases hz:be=0
  ·subst hz
   rw [if_pos rfl] at j
   go_wp2_with (first | refine F4.load 0 rfl Qa ?_ | (refine F4.store 2 rfl Qa (by simp) ?_;intro w5 F5 O5))
   refine Qk results97 rfl F5.r2 Qa rfl ⟨F5.b,_,by rw [HE.out];rfl,?_⟩
   rw [j.out];exact HV.out.purses F5.b (T.out.only O5 l2) (Bh O.out S.out)
  ·rw [if_neg hz] at j
   have aA:(be != 0)=true:=by simpa using hz
   go_wp2_with (refine F4.store 2 rfl Qa (by simp) ?_;intro w5 F5 O5)
   refine Qk results97 rfl F5.r2 Qa rfl ⟨F5.b,_,by rw [HE.out];rfl,?_⟩
   rw [j.out];exact Qg _ _ _
 ·rw [if_pos hz] at HE j
  have aA:(Jg p.data != 0)=true:=by simpa using hz
  clear hz;generalize Jg p.data=pe at *;unfold trV
  go_upto_region 2 with fail
  refine F1.box ?_;intro w2 F2 z q;clear z q F1
  go_wp2_with (first | refine F2.load 0 rfl Qa ?_ | (refine F2.store 2 rfl Qa (by simp) ?_;intro w5 F5 O5))
  refine Qk results97 rfl F5.r2 Qa rfl ⟨F5.b,_,by rw [HE.out];rfl,?_⟩
  rw [j.out];exact HV.out.below F5.b
def Qji (l:List Pu) (p:Pk):Int:=if Jg p.data≠0 then Jg p.data else if ZW (QQ p.data).reader=true then 7 else ZZ l p.dst p.src (QQ p.data)
theorem Qry (l:List Pu) (p:Pk) (sv pv:Value) (N:Nat) (w:World) (hN:N≤w.heap.size) (hl:Qt PuR 3 w N sv l) (hp:PkV w N pv p) (hU:l.length≤60∧QT l) (M:p.data.length≤140737488351232) (hi:(-9223372036854775808≤p.dst∧p.dst≤9223372036854775807)∧-9223372036854775808≤p.src∧p.src≤9223372036854775807) (m:QL w) :
  Calls prog 93 #[sv,pv] w fun e w'=>Bd w w'∧∃ v',e=.returned (.tuple #[v',Bb (Qji l p)])∧(Qji l p=0→J3 w.heap.size w' v' (Qa0 l p.dst p.src (QQ p.data)))∧∃ o n c,v'=.slice o n c:=by
 obtain ⟨od,cd,rfl,hd⟩:=hp.open;obtain ⟨ol,cl,rfl,-⟩:=hl.shape;have A:=hid (fun W (hb:Bd w W)=>QfS p.data (.slice od p.data.length cd) N W (hd.below (hb.mono hN)) (Bh hN hb.size) (by omega))
 have L:=hid (fun W (hb:Bd w W)=>QpM l p.dst p.src (QQ p.data) (.slice ol l.length cl) N W (m.below hb) (Bh hN hb.size) (hl.below PuR.stays (hb.mono hN)) hU.2 hU.1 (Ys p.data).1 hi.1 hi.2 (Ys p.data).2)
 have G:=hid (fun W=>Qg1 (QQ p.data).reader W)
 have HE:=hid (show Qji l p=if Jg p.data≠0 then Jg p.data else if ZW (QQ p.data).reader=true then 7 else ZZ l p.dst p.src (QQ p.data) from rfl)
 clear hp hl hU M hi m hd hN;generalize p.data.length=dl,l.length=ll at *;generalize QQ p.data=t at *
 go_in
 go_upto_region 1 with fail
 refine JQ ?_;intro w0 F0 hs;clear hs;have p3:=F0.r0.k5.2.2.2.1
 go_wp2_with fail
 refine (A.out _ F0.b).mono ?_;rintro e w1 ⟨rfl,C⟩;have F1:=F0.go C;clear C F0 A p3
 by_cases hz:Jg p.data=0
 ·rw [hz] at HE ⊢
  rw [if_neg (by simp)] at HE
  clear hz;unfold trV
  go_upto_region 2 with fail
  refine F1.box ?_;intro w2 F2 z q;clear z q F1;have a3:=F2.r1.k4.2.2.2
  go_wp2_with fail
  refine (G.out _).mono ?_;rintro e w3 ⟨rfl,D⟩;have F3:=F2.go D;clear D F2 a3
  cases j:ZW t.reader with
  | true =>
   rw [j,if_pos rfl] at HE;clear j;have HB:=hid F3.b;go_wp2;go_ret2;exact ⟨HB.out,_,by rw [HE.out];rfl,fun h=>absurd (HE.out.symm.trans h) (by decide),none,0,0,rfl⟩
  | false =>
   rw [j,if_neg (by simp)] at HE
   clear j;have p0:=F3.r0.k5.1;have p1:=F3.r0.k5.2.1;obtain ⟨a0,a1,a2,a3⟩:=F3.r1.k4
   go_wp2_with fail
   refine (L.out _ F3.b).mono ?_;rintro e w4 ⟨E,uv,rfl,hu⟩;have HB:=hid (F3.go E).b;have I:=hid F3.b.size;have HU:=hid hu;obtain ⟨ou,cu,rfl,-⟩:=hu.shape;clear E hu F3 p0 p1 a0 a1 a2 a3;generalize ZZ l p.dst p.src t=ce at *;go_wp2;go_ret2;exact ⟨HB.out,_,by rw [HE.out];rfl,fun _=>HU.out.down I.out,_,_,_,rfl⟩
 ·rw [if_pos hz] at HE
  have HZ:=hid hz;have hzb:(Jg p.data != 0)=true:=by simpa using hz
  clear hz;generalize Jg p.data=pe at *;unfold trV
  go_upto_region 2 with fail
  refine F1.box ?_;intro w2 F2 z q;have HB:=hid F2.b;clear z q F1 F2;go_wp2;go_ret2;exact ⟨HB.out,_,by rw [HE.out];rfl,fun h=>absurd (HE.out.symm.trans h) HZ.out,none,0,0,rfl⟩
end Go.Proofs.YtnedafiokmjkkaaGreatDoor
