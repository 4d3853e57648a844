/- What the makers of pieces answer, the landed ones and the do. -/
import Derived.Test.YtnedafiokmjkkaaGreatDoorraClAsk
import Derived.Lib.ConvBytes
import Derived.Laws.IdiomStrings
namespace Go.Proofs.YtnedafiokmjkkaaGreatDoor
open Tryz
set_option maxRecDepth 1000000
set_option maxHeartbeats 8000000
open Go.RowKit
variable {w w':World} {v:Value} {ns:List Nat} {N g k:Nat} {t:TypeId} {cs:List Value} {o:Oper} {a:Act} {Q:Exit→Act→World→Prop} {ts:List Vt}
def Qv2 (f:FuncId):Prop:=∀ (n:Nat) (w:World),Calls prog f #[.int .u64 (n:Int)] w fun e w'=>e=.returned (.agg #[Bb 1,.int .u64 (n:Int),Bc])∧Bd w w'
def QvC (f:FuncId):Prop:=∀ (o:Option Addr) (n c:Nat) (w:World),Calls prog f #[.slice o n c] w fun e w'=>e=.returned (.agg #[Bb 2,.int .u64 0,.slice o n c])∧Bd w w'
theorem QkH: Qv2 218:=by
 intro n w;obtain ⟨w0,d⟩:∃ w0,w.alloc (.cells #[Bb 0,.int .u64 0,Bc] 184)=w0:=⟨_,rfl⟩;have e:=hid (show Bd w w0 by rw [← d];exact (Bi _ _).alloc (Bj _) _)
 have b:=hid (QiM d);obtain ⟨c0,c1,c2,z0,z1,z2⟩:=b.out.three
 go_in
 go_wp2;obtain ⟨d0,d1,d2⟩:=b.out.set3 (Bb 1) (.int .u64 (n:Int)) (Bc);exact BF (v:=.agg #[Bb 1,.int .u64 (n:Int),Bc]) (by simp [results,results218,go_sem,d0,d1,d2]) rfl ⟨rfl,JM e.out (Bj _) _ _ _⟩
theorem QuP: QvC 217:=by
 intro o n c w;obtain ⟨w0,d⟩:∃ w0,w.alloc (.cells #[Bb 0,.int .u64 0,Bc] 184)=w0:=⟨_,rfl⟩;have e:=hid (show Bd w w0 by rw [← d];exact (Bi _ _).alloc (Bj _) _)
 have b:=hid (QiM d);obtain ⟨c0,c1,c2,z0,z1,z2⟩:=b.out.three
 go_in
 go_wp2;obtain ⟨d0,d1,d2⟩:=b.out.set3 (Bb 2) (.int .u64 0) (.slice o n c);exact BF (v:=.agg #[Bb 2,.int .u64 0,.slice o n c]) (by simp [results,results217,go_sem,d0,d1,d2]) rfl ⟨rfl,JM e.out (Bj _) _ _ _⟩
theorem Qfy (w:World) (x:ByteArray):(convert 9 29 (.string x)).run prog w=.ok (.slice (some ⟨w.heap.size,0,none⟩) x.size (grownCap w x.size 0 5)) (Lib.bytesWorld w 5 x) :=
 Lib.run_convert_string_bytes w 9 29 5 x underlying9 underlying29 underlying5
theorem Qif (w:World) (s:ByteArray):Bytes (Lib.bytesWorld w 5 s) (Lib.bytesWorld w 5 s).heap.size (.slice (some ⟨w.heap.size,0,none⟩) s.size (grownCap w s.size 0 5)) (Zn s):=by
 have hsz:=Lib.bytesWorld_size w 5 s;refine .inr (.inr ⟨w.heap.size,0,_,by rw [Q7],by rw [Q7];exact Du _ _ _ _,fun i hi=>⟨by omega,?_⟩⟩)
 rw [Q7] at hi;rw [Bq,Lib.bytesWorld_cell _ _ _ _ hi]
 congr 2
 unfold b8 Zn;simp
theorem Qeq (w:World) (s:ByteArray):Bd w (Lib.bytesWorld w 5 s) :=
 ⟨rfl,rfl,rfl,by rw [Lib.bytesWorld_size];omega,fun j hj=>Lib.bytesWorld_at_old _ _ _ _ hj⟩
def QuU (f:FuncId):Prop:=∀ (h:Hd) (v:Value) (N:Nat) (w:World),HdV w N v h→N≤w.heap.size→Jq h=0 →
 Calls prog f #[v] w fun e w'=>∃ x,e=.returned x∧Bytes w' w'.heap.size x (Ji h)∧Bd w w'
theorem pcT (o:Option Addr) (n c:Nat) (b:Bg) (W:World) (h:Bytes W W.heap.size (.slice o n c) b):Calls prog 217 #[.slice o n c] W fun e W'=>∃ v,e=.returned v∧Bd W W'∧PcB b v W' :=
 (QuP o n c W).mono (by rintro e W' ⟨rfl,hb⟩;exact ⟨_,rfl,hb,o,n,c,rfl,(h.below hb).mono hb.size⟩)
theorem QmX: QuU 182:=by
 intro h v N w hv hN hw;obtain ⟨-,⟨f3,f4,f5,f6⟩,-⟩:=QaO hw;have C:=hid (Qtm (l:=Zi h) (by simp [Zi]) (Qca h hw) (Qes h hw))
 obtain ⟨rv,vv,nv,rfl,h1,h2,h3⟩:=hv;obtain ⟨o1,c1,rfl,-⟩:=h1.shape;obtain ⟨o2,c2,rfl,-⟩:=h2.shape;obtain ⟨o3,c3,rfl,-⟩:=h3.shape;have H1:=hid (fun W (hb:Bd w W)=>And.intro ((h1.below (hb.mono hN)).mono (Bh hN hb.size)) (And.intro ((h2.below (hb.mono hN)).mono (Bh hN hb.size)) ((h3.below (hb.mono hN)).mono (Bh hN hb.size))))
 clear h1 h2 h3 hw
 go_in
 go_upto_region 1 with fail
 refine JO ?_;intro w0 F hs;have HF:=hid F;clear F hs;obtain ⟨ch,hh,tt,root,vals,next⟩:=h;obtain ⟨ht,rfl⟩:∃ n:Nat,hh=(n:Int):=⟨hh.toNat,(Int.toNat_of_nonneg (by simp at f3;omega)).symm⟩
 obtain ⟨tm,rfl⟩:∃ n:Nat,tt=(n:Int):=⟨tt.toNat,(Int.toNat_of_nonneg (by simp at f5;omega)).symm⟩
 have q1:=wrap64 ht (by simp at f4;omega)
 have q2:=wrap64 tm (by simp at f6;omega)
 simp only at HF H1;generalize root.length=n1,vals.length=n2,next.length=n3 at *;apply JR 28 (by kernel_rfl) (fun W hb=>(HF.out.go hb).r0.k6) (by kernel_rfl)
 ·intro σ;simp [Qj];exact rfl
 iterate 2 (apply RK.val rfl;· intro σ W hb hc ⟨hd,hu⟩;simp at hd hu;go_simp;exact rfl)
 apply RK.new (ByB (Zn ch)) (ByB.stay _) rfl
 ·intro σ W hb hc ⟨hd,hu⟩;simp at hd hu
  have hcv:=Qfy W ch;exact ⟨_,_,by go_simp,Qeq W _,.of (Qif W _)⟩
 apply RK.callG (PcB (Zn ch)) (PcB.stay _) rfl
 ·intro σ W hb hc ⟨hd,hu⟩;simp at hd hu
  obtain ⟨o,n,c,e,h⟩:=hd;exact ⟨_,_,by go_simp <;> first | exact rfl | exact ⟨rfl,rfl⟩,pcT o n c _ W h⟩
 iterate 2 (
  iterate 3 (apply RK.val rfl;· intro σ W hb hc ⟨hd,hu⟩;simp at hd hu;go_simp;exact rfl)
  apply RK.callV rfl
  ·intro σ W hb hc ⟨hd,hu⟩;simp at hd hu;go_simp;exact ⟨rfl,rfl⟩
  ·intro W hb hc;exact QkH _ W)
 iterate 3 (
  iterate 2 (apply RK.val rfl;· intro σ W hb hc ⟨hd,hu⟩;simp at hd hu;go_simp;exact rfl)
  apply RK.callV rfl
  ·intro σ W hb hc ⟨hd,hu⟩;simp at hd hu;go_simp;exact ⟨rfl,rfl⟩
  ·intro W hb hc;exact QuP _ _ _ W)
 apply RK.new (Qj1 (Zi ⟨ch,ht,tm,root,vals,next⟩)) (Qj1.stay _) rfl
 ·intro σ W hb hc ⟨hd,hu⟩;simp at hd hu
  obtain ⟨⟨o,n,c,e,h⟩,e1,e2,e3,e4,e5⟩:=hd;obtain ⟨k1,k2,k3⟩:=H1.out W (HF.out.go hb).b
  have HH:=hid (Qel W 184 [(⟨2,0,Zn ch⟩,.slice o n c),(⟨1,ht,[]⟩,Bc),(⟨1,tm,[]⟩,Bc),(⟨2,0,root⟩,.slice o1 n1 c1),(⟨2,0,vals⟩,.slice o2 n2 c2),(⟨2,0,next⟩,.slice o3 n3 c3)] (by
   intro q hq;simp at hq
   rcases hq with rfl | rfl | rfl | rfl | rfl | rfl
   ·exact h
   ·exact .inl ⟨rfl,rfl⟩
   ·exact .inl ⟨rfl,rfl⟩
   ·exact k1
   ·exact k2
   ·exact k3))
  clear h k1 k2 k3;exact ⟨_,_,by go_simp <;> exact rfl,(Bi _ _).alloc (Bj _) _,HH.out⟩
 apply RK.callG (WrB (Ji ⟨ch,ht,tm,root,vals,next⟩)) (WrB.stay _) rfl
 ·intro σ W hb hc ⟨hd,hu⟩;simp at hd hu
  have HH:=hid (C.out (σ 21) W hd.1);clear hd;exact ⟨_,_,by go_simp <;> first | exact rfl | exact ⟨rfl,rfl⟩,HH.out⟩
 apply RK.new (WrB (Ji ⟨ch,ht,tm,root,vals,next⟩)) (WrB.stay _) rfl
 ·intro σ W hb hc ⟨hd,hu⟩;simp at hd hu
  exact ⟨σ 22,W,by go_simp,Bi _ _,hd⟩
 apply RK.new (ByB (Ji ⟨ch,ht,tm,root,vals,next⟩)) (ByB.stay _) rfl
 ·intro σ W hb hc ⟨hd,hu⟩;simp at hd hu
  obtain ⟨o,n,k,c,i,e,h⟩:=hd;have HH:=hid h;clear h;exact ⟨_,W,by go_simp <;> exact rfl,Bi _ _,o,n,k,rfl,HH.out⟩
 apply RK.new FaB FaB.stay rfl
 ·intro σ W hb hc ⟨hd,hu⟩;simp at hd hu
  obtain ⟨o,n,k,c,i,e,h⟩:=hd;clear h;exact ⟨_,W,by go_simp <;> exact rfl,Bi _ _,c,i,rfl⟩
 apply RK.new (Qk4 w.heap.size) (Qk4.stay _) rfl
 ·intro σ W hb hc ⟨hd,hu⟩;simp at hd hu
  have HH:=hid (Row.new W 180 [Bb 0,Bb 0]);exact ⟨_,_,by go_simp <;> exact rfl,(Bi _ _).alloc (Bj _) _,W.heap.size,rfl,(HF.out.go hb).b.size,HH.out⟩
 apply RK.new (ByB (Ji ⟨ch,ht,tm,root,vals,next⟩)) (ByB.stay _) rfl
 ·intro σ W hb hc ⟨hd,hu⟩;simp at hd hu
  obtain ⟨o,n,k,e,h⟩:=hd.1;have HH:=hid h;clear h;exact ⟨_,W,by go_simp <;> exact rfl,Bi _ _,o,n,k,rfl,HH.out⟩
 intro σ W hb _;simp only [Jm,Bv,By,Nat.reduceAdd];intro hF;obtain ⟨-,-,-,-,-,-,-,-,-,-,-,-,-,-,-,-,-,-,-,-,-,-,-,-,-,⟨c,i,D⟩,⟨k,E,hk,d⟩,⟨o,n,cc,G,j⟩,-⟩:=hF;have m:=hid (HF.out.go hb).b;have A:=hid d;have z:=hid j;obtain ⟨z0,z1,z2,z3⟩:=d.two;clear hb d j;simp only [BU,BS,D,E,G];go_wp2;go_ret;have O:=((JH.refl k W).cell 0 (Bb c)).cell 1 (Bb i);exact ⟨_,rfl,(z.out.only A.out rfl O.same).mono (Ds O.size.symm),O.down m.out hk⟩
def Yq (n:Nat):List Value:=[Bb 1,.int .u64 (n:Int),Bc]
def Qgq (w:World) (base:Nat) (v:Value) (ns:List Nat):Prop:=w.ownsRow base 184 3 v ns.length (ns.flatMap Yq)
theorem Qgq.below {base:Nat} (h:Qgq w base v ns) (hg:Bd w w'):Qgq w' base v ns:=Yg h hg
theorem Qgq.shape {base:Nat} (h:Qgq w base v ns):∃ oa b,v=.slice oa ns.length b:=by
 obtain ⟨_,h2⟩:=h
 rcases h2 with ⟨rfl,h3⟩ | ⟨g,b,cur,rfl,_⟩
 ·exact ⟨none,0,by rw [h3]⟩
 ·exact ⟨_,b,rfl⟩
theorem Qgq.pieces {base:Nat} (h:Qgq w base v ns):JC w w.heap.size v (ns.map fun n=>⟨1,n,[]⟩):=by
 have e:(ns.map fun n=>((⟨1,n,[]⟩:Pc),Value.slice none 0 0)).map (·.1)=ns.map fun n=>⟨1,n,[]⟩:=by simp
 rw [← e];refine Qex.pieces (base:=base) ⟨?_,fun q hq=>?_⟩
 ·have:(ns.map fun n=>((⟨1,n,[]⟩:Pc),Value.slice none 0 0)).flatMap YL=ns.flatMap Yq:=by rw [List.flatMap_map];rfl
  rw [this,Bp];exact h
 ·obtain ⟨n,_,rfl⟩:=BD.1 hq
  exact Qq.nil _ _
theorem QnX (h:Row w g t cs):∀ (j:Nat) (x:Value),cs[j]?=some x→w.cell? ((⟨g,0,none⟩:Addr).add j)=some x:=by
 intro j x hx;have b:(⟨g,0,none⟩:Addr).add j=⟨g,j,none⟩:=by unfold Addr.add;split <;> simp_all
 rw [b,h.cell,hx]
theorem Qfp {q:Array Oper} {rest:List Oper} (z:o.guard=none) (s x:Operand)
  (ho:o.op=.call { callee:=.builtin .append,args:=#[s,x],argTypes:=#[186,186] })
  (base:Nat) (v:Value) (ns:List Nat) (hs:a.eval s=v) (d:Qgq w base v ns) (g m n:Nat) (hx:a.eval x=.slice (some ⟨g,0,none⟩) 2 2) (j:Row w g 184 (Yq m ++ Yq n)) (hl:ns.length≤1000) (b:base≤w.heap.size)
  (h:∀ v' w',Qgq w' base v' (ns ++ [m,n])→Below base w w'→wpList prog q Q rest (a.put o.dst v') w'):wpList prog q Q (o :: rest) a w:=by
 obtain ⟨i0,A,C,D,E⟩:=Ci Qcb
 refine Ea _ z s x 186 ho base 184 i0 _ 3 40 underlying186 A C D E rfl (by decide) v ns.length (ns.flatMap Yq) hs d ⟨g,0,none⟩ 2 2
  (Yq m ++ Yq n) hx rfl (QnX j) (by simp [Yq]) (by unfold maxLen;omega) (by omega) b ?_
 intro v' w' h1 h2 _;refine h v' w' ?_ ((Bi base _).grown h2 b (fun k hk=>(d.lt k hk).1))
 unfold Qgq;rw [Bs,List.flatMap_append];have e:[m,n].flatMap Yq=Yq m ++ Yq n:=by simp
 rw [e];exact h1
def QdZ (l:List Vl):List Nat:=l.flatMap fun v=>[v.key,v.power]
theorem Qog (l:List Vl) (k:Nat) (v:Vl) (h:l[k]?=some v):QdZ (l.take (k+1))=QdZ (l.take k) ++ [v.key,v.power]:=by
 obtain ⟨hk,rfl⟩:=Bm.1 h;rw [Cx hk];unfold QdZ;rw [List.flatMap_append];rfl
theorem Qfk (l:List Vl):(QdZ l).map (fun n=>(⟨1,n,[]⟩:Pc))=Yy l:=by
 unfold QdZ Yy;rw [List.map_flatMap];rfl
theorem QqL (l:List Vl):(QdZ l).length=2*l.length:=by
 have:=ZJ l;rw [← Qfk,Bp] at this;exact this
theorem QkY (l:List Vl) (h:∀ v∈l,v.ok):∀ p∈Yy l,p.fits:=by
 intro p hp;obtain ⟨v,hv,hm⟩:=List.mem_flatMap.1 hp;obtain ⟨h1,h2⟩:=h v hv;simp at hm
 rcases hm with rfl | rfl
 ·exact ⟨h1,by simp⟩
 ·exact ⟨h2,by simp⟩
def Qts (f:FuncId):Prop:=∀ (l:List Vl) (sv:Value) (N:Nat) (w:World),Qi w→Zx w N sv l→N≤w.heap.size→l.length≤10→(∀ v∈l,v.ok) →
 Calls prog f #[sv] w fun e w'=>∃ x,e=.returned x∧Bytes w' w'.heap.size x (QcD l)∧Bd w w'
theorem QoD: Qts 215:=by
 intro l sv N w M hb hN I E;obtain ⟨oa,ca,rfl,-⟩:=hb.shape;have HB:=hid hb;have G:=hid M;have aJ:=hid (Qtm (l:=Yy l) (by rw [ZJ];omega) (QkY l E) (Qop l I E))
 have aK:=hid (QiR l I E);clear hb M E;generalize hn:l.length=n at *;have HN:=hid hn;clear hn;have e1:decide ((10:Int)<(n:Int))=false:=by simp;omega
 obtain ⟨i0,aL,aO,aP,aQ⟩:=Ci Qcb;obtain ⟨w1,aC,z,d⟩:=run_make_own (P:=prog) (w:=w) w.heap.size 186 184 i0 _ 3 underlying186 aL aO aP .i64 .i64 (2*n) (by rw [aQ];omega) (by unfold maxLen;omega) (Bj _)
 have aH:=hid (show Qgq w1 w.heap.size (.slice (some ⟨w.heap.size,0,none⟩) 0 (2*n)) (QdZ (l.take 0))∧Bd w w1 from ⟨z,d.os,d.tape,d.output,d.size,fun k hk=>d.block k hk (by simp)⟩)
 rw [show ((2*n:Nat):Int)=2*(n:Int) by omega] at aC
 have hmul:IntKind.i64.wrap (2*(n:Int))=2*(n:Int):=by simp [IntKind.wrap,IntKind.bits,IntKind.signed];split <;> omega
 clear z d
 go_in
 go_wp2
 go_loopw [3,5,17] (fun y _ i wr=>∃ k:Nat,k≤n∧i=Bb (k:Int)∧Hid (Qgq wr w.heap.size y (QdZ (l.take k))∧Bd w wr)) (fun _ _ i _=>n-(intOf i).toNat)
 case atStart=>exact ⟨0,by omega,rfl,aH⟩
 case round =>
  obtain ⟨k,hk,rfl,HT⟩:=hrel
  by_cases aM:k<n
  ·obtain ⟨v,hv⟩:∃ v,l[k]?=some v:=⟨l[k]'(by rw [HN.out];exact aM),Bk _⟩
   obtain ⟨b,o,rfl,q⟩:=HB.out.spot (by omega)
   obtain ⟨hbN,d0,d1⟩:=q k v hv;have f0:=(HT.out.2.cell (p:=⟨b,o+k*2,none⟩) (by show b<_;omega)).trans d0
   have f1:=(HT.out.2.cell (p:=⟨b,o+k*2+1,none⟩) (by show b<_;omega)).trans d1
   have hlt':(k:Int)<(n:Int):=by omega
   have aF:=hid (Qog l k v hv);have aN:(QdZ (l.take k)).length≤1000:=by rw [QqL];simp;omega
   clear d0 d1 q
   go_upto_region 7 with fail
   refine JO ?_;intro w2 F hs;have HF:=hid F;obtain ⟨oy,cy,ey⟩:=HT.out.1.shape;subst ey;clear F hs f0 f1;apply JR 8 (by kernel_rfl) (fun W hb=>(HF.out.go hb).r0.cell) (by kernel_rfl)
   ·intro σ;simp [Qj];exact rfl
   iterate 3 (apply RK.val rfl;· intro σ W hb hc ⟨hd,hu⟩;simp at hd hu;go_simp;exact rfl)
   apply RK.callV rfl
   ·intro σ W hb hc ⟨hd,hu⟩;simp at hd hu;go_simp;exact ⟨rfl,rfl⟩
   ·intro W hb hc;exact QkH _ W
   iterate 2 (apply RK.val rfl;· intro σ W hb hc ⟨hd,hu⟩;simp at hd hu;go_simp;exact rfl)
   apply RK.callV rfl
   ·intro σ W hb hc ⟨hd,hu⟩;simp at hd hu;go_simp;exact ⟨rfl,rfl⟩
   ·intro W hb hc;exact QkH _ W
   apply RK.new (fun X W=>∃ k,X=.slice (some ⟨k,0,none⟩) 2 2∧Row W k 184 (Yq v.key ++ Yq v.power)) (fun _ _ _ hb ⟨k,e,h⟩=>⟨k,e,h.below hb h.lt⟩) rfl
   ·intro σ W hb hc ⟨hd,hu⟩;simp at hd hu
    exact ⟨_,_,by go_simp <;> exact rfl,(Bi _ _).alloc (Bj _) _,W.heap.size,rfl,Row.new _ _ _⟩
   intro σ W hb _;simp only [Jm,Bv,By,Nat.reduceAdd];intro hF;obtain ⟨e0,-,-,-,-,-,-,⟨j,e7,L⟩,-⟩:=hF;have HO:=hid (HT.out.1.below (HF.out.go hb).b);have S:=hid (HT.out.2.trans ((HF.out.go hb).b.mono HT.out.2.size));simp only [BU,BS,e0,e7];refine Qfp rfl (.tmp 21) (.tmp 28) rfl w.heap.size _ _ rfl HO.out j v.key v.power rfl L aN S.out.size ?_;intro v' w' A Y;have aI:=hid (And.intro A (S.out.trans Y));clear A Y L e0 e7 hb
   go_wp2_with fail
   go_roundw
   case rel=>exact ⟨k+1,by omega,by go_num,hid (by rw [aF.out];exact aI.out)⟩
   case measure=>simp [intOf];omega
  ·have hge:decide ((k:Int)<(n:Int))=false:=by simp;omega
   have O:=HT.out.1.pieces;rw [Bw (by rw [HN.out];omega),Qfk] at O
   have HC:=hid (aJ.out _ wr O);obtain ⟨oy,cy,rfl⟩:=HT.out.1.shape;have aE:=hid HT.out.2;clear O HT;generalize (QdZ (l.take k)).length=m at *
   go_wp2_with fail
   refine HC.out.mono ?_;rintro e w4 ⟨_,rfl,aA,ov,nv,cv,c,i,rfl,ho⟩;have HO:=hid ho;have D:=hgo aE aA;clear ho aA HC
   go_upto_region 10 with fail
   refine JO ?_;intro w5 F hs;have HS:=hid (QkS (QfQ l) _ w5.heap.size w5 (Bj _) ((HO.out.below F.b).mono F.b.size) (G.out.below (D.out.trans (F.b.mono D.out.size)) G.out.lt) (by have:=aK.out;omega))
   have T:=hid (D.out.trans (F.b.mono D.out.size));clear F hs
   go_wp2_with fail
   refine HS.out.mono ?_;rintro e w6 ⟨v6,rfl,C,aB⟩;have aG:=hid (QdT C);have aD:=hid aB;clear C aB;go_wp2;go_ret;exact ⟨_,rfl,aG.out,T.out.trans (aD.out.mono T.out.size)⟩
theorem QkU (h:Hd) (l:List Vl) (v sv:Value) (N:Nat) (w:World) (d:Qi w) (hN:N≤w.heap.size) (hv:HdV w N v h) (hf:h.fits) (hl:Zx w N sv l) (j:l.length<2305843009213693952) (q:∀ v∈l,v.ok) :
  Calls prog 208 #[v,sv] w fun e w'=>e=.returned (Bb (Jk h l))∧Bd w w':=by
 have HT:=hid (show Jk h l=if Jq h≠0 then Jq h else if JB l≠0 then JB l else if h.vals=QcD l then 0 else 8 from rfl)
 have HW:=hid (fun W (hb:Bd w W)=>QqU h _ N W (hv.below (hb.mono hN)) hf)
 have A:=hid (fun W (hb:Bd w W)=>QuR l _ N W (hl.below (hb.mono hN)) (Bh hN hb.size) j)
 have m:=hid (fun (h0:l.length≤10) W (hb:Bd w W)=>QoD l _ N W (d.below hb d.lt) (hl.below (hb.mono hN)) (Bh hN hb.size) h0 q)
 obtain ⟨rv,vv,nv,rfl,h1,h2,h3⟩:=hv;obtain ⟨o1,c1,rfl,-⟩:=h1.shape;obtain ⟨o2,c2,rfl,-⟩:=h2.shape;obtain ⟨o3,c3,rfl,-⟩:=h3.shape;have HE:=hid (fun W (hb:Bd w W) x (hx:Bytes W W.heap.size x (QcD l))=>YB h.vals (QcD l) _ x N W.heap.size W (h2.below (hb.mono hN)) hx)
 obtain ⟨ol,cl,rfl,-⟩:=hl.shape;clear h1 h2 h3 hl q j d
 go_in
 go_upto_region 1 with fail
 refine JO ?_;intro w0 F hs;clear hs
 go_wp2_with (refine F.load 0 rfl Qs2 ?_)
 refine (HW.out _ F.b).mono ?_;rintro e w1 ⟨rfl,hb⟩;replace F:=F.go hb;clear hb
 by_cases hw:Jq h=0
 ·replace HT:=hid (HT.out.trans (if_neg (by simp [hw])))
  rw [hw]
  go_wp2_with fail
  refine (A.out _ F.b).mono ?_;rintro e w2 ⟨rfl,hb⟩;replace F:=F.go hb;clear hb hw
  by_cases hw:JB l=0
  ·replace HT:=hid (HT.out.trans (if_neg (by simp [hw])))
   replace m:=hid (m.out (Zg hw).2.1);rw [hw]
   go_upto_region 7 with fail
   have HF:=hid F;clear F hw;apply QC (by kernel_rfl) (fun W hb=>(HF.out.go hb).r0.cell) (by kernel_rfl)
   ·intro σ;simp [Qj];exact rfl
   iterate 3 (apply RK.val rfl;· intro σ W hb hc ⟨hd,hu⟩;simp at hd hu;go_simp;exact rfl)
   apply RK.callG (ByB (QcD l)) (ByB.stay _) rfl
   ·intro σ W hb hc ⟨hd,hu⟩;simp at hd hu
    refine ⟨_,_,by go_simp <;> first | exact rfl | exact ⟨rfl,rfl⟩,(m.out W (HF.out.go hb).b).mono ?_⟩
    rintro e w' ⟨x,rfl,hx,hb⟩;exact ⟨x,rfl,hb,.of hx⟩
   apply RK.callG _ (Yr.eq (.bool (decide (h.vals=QcD l)))) rfl
   ·intro σ W hb hc ⟨hd,hu⟩;simp at hd hu
    refine ⟨_,_,by go_simp <;> first | exact rfl | exact ⟨rfl,rfl⟩,(HE.out W (HF.out.go hb).b _ hd.2.bytes).mono ?_⟩
    rintro e w' ⟨rfl,rfl⟩;exact ⟨_,rfl,Bi _ _,rfl⟩
   apply RK.val rfl;· intro σ W hb hc ⟨hd,hu⟩;simp at hd hu;go_simp;exact rfl
   intro σ W hb _;simp only [Jm,Bv,By,Nat.reduceAdd];intro hF;obtain ⟨-,-,-,-,-,e5,-⟩:=hF;have HB:=hid (HF.out.go hb).b;clear hb;rw [e5];clear e5
   by_cases hw:h.vals=QcD l
   ·rw [if_pos hw] at HT
    rw [BB hw];go_wp2;go_ret;exact ⟨by rw [HT.out];rfl,HB.out⟩
   ·rw [if_neg hw] at HT
    rw [BC hw];go_wp2;go_ret;exact ⟨by rw [HT.out];rfl,HB.out⟩
  ·rw [if_pos hw] at HT
   have e2:(JB l != 0)=true:=by simpa using hw
   have HB:=hid F.b;clear hw F;generalize JB l=z at *;go_wp2;go_ret;exact ⟨by rw [HT.out];rfl,HB.out⟩
 ·rw [if_pos hw] at HT
  have e2:(Jq h != 0)=true:=by simpa using hw
  have HB:=hid F.b;clear hw F;generalize Jq h=z at *;go_wp2;go_ret;exact ⟨by rw [HT.out];rfl,HB.out⟩
theorem SgV.open {s:Sg} (h:SgV w N v s):∃ o1 c1 o2 c2 o3 c3 o4 c4 o5 c5,v=.agg #[.string s.hd.chain,Bb s.hd.height,Bb s.hd.time,.slice o1 s.hd.root.length c1,.slice o2 s.hd.vals.length c2,.slice o3 s.hd.next.length c3,.slice o4 s.vals.length c4,.slice o5 s.votes.length c5] ∧
  HdV w N (.agg #[.string s.hd.chain,Bb s.hd.height,Bb s.hd.time,.slice o1 s.hd.root.length c1,.slice o2 s.hd.vals.length c2,.slice o3 s.hd.next.length c3]) s.hd∧Zx w N (.slice o4 s.vals.length c4) s.vals∧Zy w N (.slice o5 s.votes.length c5) s.votes:=by
 obtain ⟨rv,vv,nv,lv,tv,rfl,h1,h2,h3,h4,h5⟩:=h;obtain ⟨o1,c1,rfl,-⟩:=h1.shape;obtain ⟨o2,c2,rfl,-⟩:=h2.shape;obtain ⟨o3,c3,rfl,-⟩:=h3.shape;obtain ⟨o4,c4,rfl,-⟩:=h4.shape;obtain ⟨o5,c5,rfl,-⟩:=h5.shape;exact ⟨_,_,_,_,_,_,_,_,_,_,rfl,⟨_,_,_,rfl,h1,h2,h3⟩,h4,h5⟩
theorem Qno (m:Bg):∀ (vs:List Vl) (ts:List Vt) (k:Nat) (v:Vl) (t:Vt),vs[k]?=some v→ts[k]?=some t→Y1 m (vs.drop k) (ts.drop k)=((!t.is || Qjs v.key m t.r t.s) && Y1 m (vs.drop (k+1)) (ts.drop (k+1))):=by
 intro vs ts k v t hv ht;obtain ⟨h1,rfl⟩:=Bm.1 hv;obtain ⟨h2,rfl⟩:=Bm.1 ht;rw [Cs h1,Cs h2,Y1]
theorem QlF (m:Bg) (vs:List Vl) (ts:List Vt) (k:Nat) (h:ts.length≤k):Y1 m (vs.drop k) (ts.drop k)=true:=by
 rw [CK h];unfold Y1
 split <;> first | rfl | (rename_i h;cases h)
theorem Qlb (s:Sg) (v:Value) (N:Nat) (w:World) (j:Qi w) (hN:N≤w.heap.size) (hv:SgV w N v s) (hw:Jq s.hd=0) (G:s.votes.length=s.vals.length) (h10:s.vals.length≤10) (M:∀ v∈s.vals,v.ok) (z:∀ t∈s.votes,t.ok) :
  Calls prog 209 #[v] w fun e w'=>e=.returned (.bool (Y1 (Ji s.hd) s.vals s.votes))∧Bd w w':=by
 obtain ⟨o1,c1,o2,c2,o3,c3,o4,c4,o5,c5,rfl,h1,h2,h3⟩:=hv.open;have C:=hid (fun W (hb:Bd w W)=>QmX s.hd _ N W (h1.below (hb.mono hN)) (Bh hN hb.size) hw)
 have HL:=hid h2;have HT:=hid h3;have S:=QmO s.hd hw
 have HG:=hid (fun (v:Vl) (hv:v∈s.vals) (t:Vt) (ht:t∈s.votes) x W (hb:Bd w W) (hx:Bytes W W.heap.size x (Ji s.hd)) =>
  (QrK v.key (Ji s.hd) t.r t.s x W.heap.size W (M v hv).1 (z t ht).1 (z t ht).2 (Bj _) hx (j.below hb j.lt) (by omega)).mono (R':=fun e w'=>e=.returned (.bool (Qjs v.key (Ji s.hd) t.r t.s))∧Bd W w') fun e w' ⟨b,h1,h2,h3⟩=>⟨by rw [h1,QrJ h2],h3⟩)
 clear h1 h2 h3 hv j M z hw S;generalize Ji s.hd=m at *;generalize s.vals=vs at *;generalize s.votes=ts at *;generalize hn:vs.length=nv at *;generalize L:ts.length=n at *;subst G;have HN:=hid (And.intro hn L);clear hn L
 go_in
 go_upto_region 1 with fail
 refine JO ?_;intro w0 F0 hs;clear hs;have k:=F0.r0.cell
 go_wp2_with fail
 refine (C.out _ F0.b).mono ?_;rintro e w1 ⟨x,rfl,hx,hb⟩;obtain ⟨ox,cx,rfl,-⟩:=hx.shape;have HX:=hid hx;have F:=F0.go hb;clear hb hx k F0 C;generalize m.length=nm at *;have k:=F.r0.cell
 go_wp2_with fail
 clear k
 go_loopw [4,5,12] (fun _ _ i wr=>∃ k:Nat,k≤n∧i=Bb (k:Int)∧Hid (Bd w1 wr∧Y1 m vs ts=Y1 m (vs.drop k) (ts.drop k))) (fun _ _ i _=>n-(intOf i).toNat)
 case atStart=>exact ⟨0,by omega,rfl,hid ⟨Bi _ _,rfl⟩⟩
 case round =>
  obtain ⟨k,hk,rfl,HI⟩:=hrel;have F2:=F.go HI.out.1;have hsz:=F2.b.size
  by_cases I:k<n
  ·obtain ⟨v,hv⟩:∃ v,vs[k]?=some v:=⟨vs[k]'(by rw [HN.out.1];exact I),Bk _⟩
   obtain ⟨t,ht⟩:∃ t,ts[k]?=some t:=⟨ts[k]'(by rw [HN.out.2];exact I),Bk _⟩
   obtain ⟨b,o,rfl,hc⟩:=HL.out.spot (by omega)
   obtain ⟨b2,p,rfl,E⟩:=HT.out.spot (by omega)
   obtain ⟨hbN,d0,-⟩:=hc k v hv;obtain ⟨hbN2,a0,a1,a2⟩:=E k t ht;have f0:=(F2.b.cell (p:=⟨b2,p+k*3,none⟩) (by show b2<_;omega)).trans a0
   have f1:=(F2.b.cell (p:=⟨b2,p+k*3+1,none⟩) (by show b2<_;omega)).trans a1
   have f2:=(F2.b.cell (p:=⟨b2,p+k*3+2,none⟩) (by show b2<_;omega)).trans a2
   have hlt':(k:Int)<(n:Int):=by omega
   have q:=hid (Qno m vs ts k v t hv ht);have O:=hid (HG.out v (Bn hv) t (Bn ht));clear a0 a1 a2 hc E hv ht;generalize Qjs v.key m t.r t.s=gb at *
   go_upto_region 5 with fail
   refine F2.box ?_;intro w2 F3 hs hb;have d:=hid (HI.out.1.trans (hb.mono HI.out.1.size));have g0:=(F3.b.cell (p:=⟨b,o+k*2,none⟩) (by show b<_;omega)).trans d0
   have r0:=F3.r0.cell;have r1:=F3.r1.cell;have HF:=hid F3.b;clear hs hb f0 f1 f2 d0 F2 F3;generalize t.is=ti at *
   cases ti with
   | true =>
    refine YU 12 (by kernel_rfl) (by kernel_rfl) ?_
    simp only [Dq,CL,BU,BS]
    repeat still_step
    refine Cd ?_
    go_wp2_with fail
    refine (O.out _ _ HF.out.drew ((HX.out.below d.out.drew).mono d.out.drew.size)).mono ?_;rintro e w3 ⟨rfl,D⟩;have A:=hid (d.out.trans ((QZ w2 1 _).trans (D.mono d.out.size)));clear D
    cases gb with
    | true =>
     go_wp2_with fail
     go_roundw
     case rel=>exact ⟨k+1,by omega,by go_num,hid ⟨A.out,by rw [HI.out.2,q.out];simp⟩⟩
     case measure=>simp [intOf];omega
    | false =>
     go_wp2;go_ret;exact ⟨by rw [HI.out.2,q.out];simp,F.b.trans (A.out.mono F.b.size)⟩
   | false =>
    go_quiet (fail)
    go_wp2_with fail
    go_roundw
    case rel=>exact ⟨k+1,by omega,by go_num,hid ⟨d.out.trans (QZ _ _ _),by rw [HI.out.2,q.out];simp⟩⟩
    case measure=>simp [intOf];omega
  ·have hge:decide ((k:Int)<(n:Int))=false:=by simp;omega
   go_wp2;go_ret;exact ⟨by rw [HI.out.2,QlF m vs ts k (by rw [HN.out.2];omega)];rfl,F2.b⟩
def QuW (f:FuncId):Prop:=∀ (s:Sg) (v:Value) (N:Nat) (w:World),Qi w→N≤w.heap.size→SgV w N v s→s.fits →
 Calls prog f #[v] w fun e w'=>e=.returned (Bb (Zm s))∧Bd w w'
def QrQ (ts:List Vt) (k:Nat):Bool:=match ts[k]? with
 | some t=>t.is
 | none=>false
theorem Qju {t:Vt} (h:ts[k]?=some t):QrQ ts k=t.is:=by unfold QrQ;rw [h]
theorem Qm5 (ts:List Vt) (k g c:Nat) (o:Option Addr) (N:Nat) (w:World) (hc:w.cell? ⟨g,7,none⟩=some (.slice o ts.length c)) (ht:Zy w N (.slice o ts.length c) ts) (hk:k<ts.length) (hn:ts.length≤10) :
  Calls prog 211 #[Bb (k:Int),.pointer (some ⟨g,0,none⟩)] w fun e w'=>e=.returned (.bool (QrQ ts k))∧Bd w w':=by
 obtain ⟨b,p,rfl,d⟩:=ht.spot (by omega)
 obtain ⟨t,h⟩:∃ t,ts[k]?=some t:=⟨ts[k],Bk hk⟩;obtain ⟨_,a0,_,_⟩:=d k t h;have HI:=hid (Qju h);have hlt:(k:Int)<(ts.length:Int):=by omega
 clear d ht h;generalize ts.length=n at *
 go_in
 go_wp2;go_ret;exact ⟨by rw [HI.out];first | done | rfl,Bi _ _⟩
theorem Qu1: QuW 177:=by
 intro s v N w d hN hv ⟨hf,E,L,A,G⟩;have HC:=hid (show Zm s=if Jk s.hd s.vals≠0 then Jk s.hd s.vals else if s.votes.length≠s.vals.length then 8 else if Y1 (Ji s.hd) s.vals s.votes=false then 10 else if 3*Qgw s.vals s.votes≤2*Qa8 s.vals then 10 else 0 from rfl)
 have j:=hid (fun (h0:Jk s.hd s.vals=0) (hl:s.votes.length=s.vals.length) W (hb:Bd w W)=>Qlb s v N W (d.below hb d.lt) (Bh hN hb.size) (hv.below (hb.mono hN)) (Yb h0).1 hl (Zg (Yb h0).2.1).2.1 A G)
 obtain ⟨o1,c1,o2,c2,o3,c3,o4,c4,o5,c5,rfl,h1,h2,h3⟩:=hv.open;have I:=hid (fun W (hb:Bd w W)=>QkU s.hd s.vals _ _ N W (d.below hb d.lt) (Bh hN hb.size) (h1.below (hb.mono hN)) hf (h2.below (hb.mono hN)) E A)
 have q:=hid (fun (h0:Jk s.hd s.vals=0) (hl:s.votes.length=s.vals.length) g (hg:w.heap.size≤g) W (hr:Row W g 37 [.string s.hd.chain,Bb s.hd.height,Bb s.hd.time,.slice o1 s.hd.root.length c1,.slice o2 s.hd.vals.length c2,.slice o3 s.hd.next.length c3,.slice o4 s.vals.length c4,.slice o5 s.votes.length c5]) (hb:Bd w W)=>by
  have h:=QjI 211 #[.pointer (some ⟨g,0,none⟩)] (fun _ _=>rfl) s.vals (QrQ s.votes) _ N W (Bh hN hb.size) (h2.below (hb.mono hN)) (Zg (Yb h0).2.1).2.1 (fun v hv=>((Zg (Yb h0).2.1).2.2.1 v hv).2) (fun k wr hk D=>by
   exact Qm5 s.votes k g c5 o5 N wr ((hr.below D hr.lt).cell 7) (h3.below ((hb.trans (D.mono hb.size)).mono hN)) (by rw [hl];exact hk) (by rw [hl];exact (Zg (Yb h0).2.1).2.1))
  rw [QqK s.vals s.votes 0 (QrQ s.votes) hl (fun i t h=>by rw [Bq];exact Qju h)] at h
  exact h)
 have hyl:=Qo6 s.vals s.votes;have C:=hid (fun (h0:Jk s.hd s.vals=0)=>And.intro (Qgz s.vals (fun v hv=>((Zg (Yb h0).2.1).2.2.1 v hv).2)) (Zg (Yb h0).2.1).2.1)
 clear h1 h2 h3 hv d hf E L A G
 go_in
 go_upto_region 1 with fail
 refine JO ?_;intro w0 F hs;clear hs;have k:=F.r0.cell
 go_wp2_with fail
 refine (I.out _ F.b).mono ?_;rintro e w1 ⟨rfl,hb⟩;replace F:=F.go hb;clear hb k
 by_cases h0:Jk s.hd s.vals=0
 ·replace HC:=hid (HC.out.trans (if_neg (by simp [h0])))
  have k:=F.r0.cell
  by_cases hl:s.votes.length=s.vals.length
  ·rw [if_neg (by simp [hl])] at HC
   replace j:=hid (j.out h0 hl);replace q:=hid (q.out h0 hl _ (Bj _));replace C:=C.out h0;rw [h0];clear h0;generalize s.vals.length=m at *;generalize s.votes.length=n at *;subst hl
   go_wp2_with (refine F.load 0 rfl Qs4 ?_)
   refine (j.out _ F.b).mono ?_;rintro e w2 ⟨rfl,hb⟩;replace F:=F.go hb;clear hb k
   cases hg:Y1 (Ji s.hd) s.vals s.votes with
   | true =>
    rw [if_neg (by simp [hg])] at HC
    have k:=F.r0.cell
    go_wp2_with fail
    refine (q.out _ F.r0 F.b).mono ?_;rintro e w3 ⟨rfl,hb⟩;have HB:=hid (F.go hb).b;clear hb F k;generalize Qgw s.vals s.votes=yy at *;generalize Qa8 s.vals=aa at *;have hw3:IntKind.u64.wrap (3*(yy:Int))=3*(yy:Int):=by simp [IntKind.wrap,IntKind.bits,IntKind.signed];omega
    have hw2:IntKind.u64.wrap (2*(aa:Int))=2*(aa:Int):=by simp [IntKind.wrap,IntKind.bits,IntKind.signed];omega
    by_cases h3:3*yy≤2*aa
    ·rw [if_pos h3] at HC
     have e3:decide (3*(yy:Int)≤2*(aa:Int))=true:=by simp;omega
     go_wp2;go_ret;exact ⟨by rw [HC.out];rfl,HB.out⟩
    ·rw [if_neg h3] at HC
     have e3:decide (3*(yy:Int)≤2*(aa:Int))=false:=by simp;omega
     go_wp2;go_ret;exact ⟨by rw [HC.out];rfl,HB.out⟩
   | false =>
    rw [if_pos hg] at HC;have HB:=hid F.b;clear F;go_wp2;go_ret;exact ⟨by rw [HC.out];rfl,HB.out⟩
  ·rw [if_pos hl] at HC
   have e2:((s.votes.length:Int) != (s.vals.length:Int))=true:=by simp;omega
   rw [h0];have HB:=hid F.b;clear F;go_wp2;go_ret;exact ⟨by rw [HC.out];rfl,HB.out⟩
 ·rw [if_pos h0] at HC
  have e2:(Jk s.hd s.vals != 0)=true:=by simpa using h0
  have HB:=hid F.b;clear h0 F;generalize Jk s.hd s.vals=z at *;go_wp2;go_ret;exact ⟨by rw [HC.out];rfl,HB.out⟩
end Go.Proofs.YtnedafiokmjkkaaGreatDoor
