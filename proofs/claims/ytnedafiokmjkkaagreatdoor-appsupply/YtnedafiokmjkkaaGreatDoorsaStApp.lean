/- Bytes that a call owns, in a row that may bear a mark behind. -/
import Derived.Test.YtnedafiokmjkkaaGreatDoorsaHdCheck
import Derived.Shelf.Strconv.AppendIntPublic10
import Derived.Shelf.Small.Strs
import Derived.Ground.NamesProg
import Derived.Lib.AppendIntMem
import Derived.Lib.FrozenHead
import Derived.Lib.ItoaLen
namespace Go.Proofs
open Tryz
open Go.Shelf
def laysStr106_ren:Go.Shelf.Ren:=⟨fun | 106=>45 | 213=>75 | 265=>103 | n=>n,fun | 9=>9 | 3=>3 | n=>n,fun | n=>n⟩
theorem laysStr106:Go.Proofs.Lays.n106 prog laysStr106_ren:={
 mixed:=by kernel_rfl
 f106:=func45.trans (congrArg some (by kernel_rfl))
 f213:=func75.trans (congrArg some (by kernel_rfl))
 f265:=func103.trans (congrArg some (by kernel_rfl))
 t3:=underlying3
 a3:=isAgg3
 z3:=sizeOf3
 v3:=zeroValue3
 t9:=underlying9
 a9:=isAgg9
 z9:=sizeOf9
 v9:=zeroValue9 }
def laysSmall283_ren:Go.Shelf.Ren:=⟨fun | 283=>253 | n=>n,fun | 3=>3 | 9=>9 | 4=>4 | n=>n,fun | n=>n⟩
theorem laysSmall283:Go.Proofs.Lays.n283 prog laysSmall283_ren:={
 mixed:=by kernel_rfl
 f283:=func253.trans (congrArg some (by kernel_rfl))
 t3:=underlying3
 a3:=isAgg3
 z3:=sizeOf3
 v3:=zeroValue3
 t4:=underlying4
 a4:=isAgg4
 z4:=sizeOf4
 v4:=zeroValue4
 t9:=underlying9
 a9:=isAgg9
 z9:=sizeOf9
 v9:=zeroValue9 }
def laysDig284_ren:Go.Shelf.Ren:=⟨fun | 284=>254 | 129=>271 | 317=>270 | 318=>272 | n=>n,fun | 53=>47 | 3=>3 | 212=>328 | 0=>0 | 4=>4 | 46=>261 | 5=>5 | 9=>9 | n=>n,fun | 17=>2 | n=>n⟩
theorem laysDig284:Go.Proofs.LaysM.n284 prog laysDig284_ren:={
 mixed:=by kernel_rfl
 f129:=func271.trans (congrArg some (by kernel_rfl))
 f284:=func254.trans (congrArg some (by kernel_rfl))
 f317:=func270.trans (congrArg some (by kernel_rfl))
 f318:=func272.trans (congrArg some (by kernel_rfl))
 t0:=underlying0
 a0:=isAgg0
 z0:=sizeOf0
 v0:=zeroValue0
 t3:=underlying3
 a3:=isAgg3
 z3:=sizeOf3
 v3:=zeroValue3
 t4:=underlying4
 a4:=isAgg4
 z4:=sizeOf4
 v4:=zeroValue4
 t5:=underlying5
 a5:=isAgg5
 z5:=sizeOf5
 v5:=zeroValue5
 t9:=underlying9
 a9:=isAgg9
 z9:=sizeOf9
 v9:=zeroValue9
 t46:=underlying261
 a46:=isAgg261
 z46:=sizeOf261
 v46:=zeroValue261
 t53:=underlying47
 a53:=isAgg47
 z53:=sizeOf47
 v53:=zeroValue47
 t212:=underlying328
 a212:=isAgg328
 z212:=sizeOf328
 v212:=zeroValue328
 g17:=by kernel_rfl
 i0:=by kernel_rfl
 i3:=by kernel_rfl
 i4:=by kernel_rfl
 i5:=by kernel_rfl
 i9:=by kernel_rfl
 i46:=by kernel_rfl
 i53:=by kernel_rfl
 i212:=by kernel_rfl
 m17:=by kernel_rfl }
def laysFmt285_ren:Go.Shelf.Ren:=⟨fun | 285=>255 | n=>n,fun | 37=>29 | 53=>47 | 3=>3 | 4=>4 | 51=>226 | 9=>9 | 5=>5 | 0=>0 | n=>n,fun | n=>n⟩
theorem laysFmt285:Go.Proofs.Lays.n285 prog laysFmt285_ren:={
 mixed:=by kernel_rfl
 f285:=func255.trans (congrArg some (by kernel_rfl))
 t0:=underlying0
 a0:=isAgg0
 z0:=sizeOf0
 v0:=zeroValue0
 t3:=underlying3
 a3:=isAgg3
 z3:=sizeOf3
 v3:=zeroValue3
 t4:=underlying4
 a4:=isAgg4
 z4:=sizeOf4
 v4:=zeroValue4
 t5:=underlying5
 a5:=isAgg5
 z5:=sizeOf5
 v5:=zeroValue5
 t9:=underlying9
 a9:=isAgg9
 z9:=sizeOf9
 v9:=zeroValue9
 t37:=underlying29
 a37:=isAgg29
 z37:=sizeOf29
 v37:=zeroValue29
 t51:=underlying226
 a51:=isAgg226
 z51:=sizeOf226
 v51:=zeroValue226
 t53:=underlying47
 a53:=isAgg47
 z53:=sizeOf47
 v53:=zeroValue47 }
end Go.Proofs
namespace Go.Proofs.YtnedafiokmjkkaaGreatDoor
open Tryz
set_option maxRecDepth 1000000
set_option maxHeartbeats 8000000
open Go.RowKit
def Jd (w:World) (base:Nat) (v:Value) (l:Bg):Prop :=
 ∃ g cap cur fz,v=.slice (some ⟨g,0,none⟩) l.length cap∧base≤g∧w.heap[g]?=some (.cells cur 5 fz)∧(fz.2=0∨cur.size≤fz.1)∧l.length≤cap∧cap≤maxLen∧cur.size=cap∧cur.toList.take l.length=l.map V
theorem Jd.lt {w:World} {base:Nat} {v:Value} {l:Bg} (h:Jd w base v l):∃ g,v.ownBlock=some g∧base≤g∧g<w.heap.size:=by
 obtain ⟨g,cap,cur,fz,rfl,hb,hg,_⟩:=h;exact ⟨g,rfl,hb,(BP.1 hg).1⟩
theorem Jd.below {w w':World} {base:Nat} {v:Value} {l:Bg} (h:Jd w base v l) (hb:Bd w w'):Jd w' base v l:=by
 obtain ⟨g,b,e,fz,h1,h2,hg,h3⟩:=h;exact ⟨g,b,e,fz,h1,h2,(hb.block g (BP.1 hg).1).trans hg,h3⟩
theorem Jd.shape {w:World} {base:Nat} {v:Value} {l:Bg} (h:Jd w base v l):∃ oa b,v=.slice oa l.length b:=by
 obtain ⟨g,b,cur,fz,rfl,_⟩:=h;exact ⟨_,_,rfl⟩
theorem Jd.cell {w:World} {base:Nat} {l:Bg} {g c:Nat} (h:Jd w base (.slice (some ⟨g,0,none⟩) l.length c) l) (j:Nat) (u:Value) (hu:(l.map V)[j]?=some u):w.cell? ⟨g,j,none⟩=some u:=by
 obtain ⟨g',cap,b,fz,e,hb,hg,hfz,hn,hm,hc,ht⟩:=h;simp at e;obtain ⟨rfl,rfl⟩:=e;have hj:j<l.length:=by have:=(Bm.1 hu).1;simpa using this
 rw [CC w g j b _ fz hg,← hu,← ht,BE,if_pos hj,Dn]
theorem Jd.bytes {w:World} {base:Nat} {v:Value} {l:Bg} (h:Jd w base v l):Bytes w w.heap.size v l:=by
 have h':=h;obtain ⟨g,b,cur,fz,rfl,hb,hg,hfz,hn,hm,hc,ht⟩:=h;refine .inr (.inr ⟨g,0,b,rfl,hn,fun i hi=>⟨(BP.1 hg).1,?_⟩⟩)
 rw [Bq];refine h'.cell i _ ?_;rw [Bs,Bk hi];simp [V,List.getD,List.getElem?_eq_getElem hi]
theorem Qh5 (P:Program) (g o:Nat) (t:TypeId) (fz:Nat×Nat):∀ (vs:List Value) (i:Nat) (b:Array Value) (w:World),w.heap[g]?=some (.cells b t fz)→(fz.2=0∨b.size≤fz.1)→o+i+vs.length≤b.size→(∀ v∈vs,v.oneCell'=true) →
  (storeCells ⟨g,o,none⟩ vs i).run P w=.ok () (w.setRow g (b.toList.take (o+i) ++ vs ++ b.toList.drop (o+i+vs.length)).toArray):=by
 intro vs
 induction vs with
 | nil =>
  intro i b w hg _ _ _;have e:(b.toList.take (o+i) ++ [] ++ b.toList.drop (o+i+([]:List Value).length)).toArray=b:=by simp
  rw [e,setRow_self w g b t fz hg];rfl
 | cons v rest ih =>
  intro i b w hg m hl h1;rw [Cy] at hl;have hi:o+i<b.size:=by omega
  have q:(⟨g,o,none⟩:Addr).add i=⟨g,o+i,none⟩:=by unfold Addr.add;split <;> simp_all
  have j:w.cell? ⟨g,o+i,none⟩=some b[o+i]:=by simp [World.cell?,hg,hi]
  have z:w.frozen? ⟨g,o+i,none⟩=false:=by
   obtain ⟨lo,up⟩:=fz;simp only [World.frozen?,hg];simp only at m;rw [Bool.and_eq_false_iff]
   rcases m with h | h
   ·right;simp;omega
   ·left;simp;omega
  have A:(store ((⟨g,o,none⟩:Addr).add i) v).run P w=.ok () (w.setRow g (b.setIfInBounds (o+i) v)):=by
   rw [q,run_store P w _ v _ (h1 v Ci),j];simp [z,setCell_eq_setRow w g (o+i) b t fz v hg]
  have hr:=ih (i+1) (b.setIfInBounds (o+i) v) (w.setRow g (b.setIfInBounds (o+i) v)) (Ck w g b _ t _ hg) (by rw [Er];exact m) (by rw [Er];omega) (fun x hx=>h1 x (Cr _ hx))
  rw [storeCells,CF,A,CO,hr,setRow_setRow];have e:=list_seg_step b.toList (o+i) v rest (by simp;omega)
  congr 3
  simpa [Array.toList_setIfInBounds,Nat.add_assoc] using e
theorem QuQ (l:Bg):∀ u∈l.map V,u.oneCell'=true:=by
 intro u hu;obtain ⟨b,_,rfl⟩:=BC.1 hu;rfl
theorem Jd.room {w:World} {base g e:Nat} {b:Array Value} {fz:Nat×Nat} {l m:Bg} (hb:base≤g) (hg:w.heap[g]?=some (.cells b 5 fz)) (q:fz.2=0∨b.size≤fz.1) (hm:e≤maxLen) (hc:b.size=e) (ht:b.toList.take l.length=l.map V) (j:l.length+m.length≤e) :
  Jd (w.setRow g (b.toList.take l.length ++ m.map V ++ b.toList.drop (l.length+m.length)).toArray) base (.slice (some ⟨g,0,none⟩) (l.length+m.length) e) (l ++ m):=by
 refine ⟨g,e,_,fz,by rw [Br],hb,Ck w g b _ _ _ hg,?_,by rw [Br];exact j,hm,?_,?_⟩
 ·have:(b.toList.take l.length ++ m.map V ++ b.toList.drop (l.length+m.length)).toArray.size=b.size:=by
   simp only [D5,Br,C2,Dd,D3,Bp];omega
  rw [this];exact q
 ·simp only [D5,Br,C2,Dd,D3,Bp]
  omega
 ·rw [ht,Br,Cc]
  have:l.length+m.length=(l.map V ++ m.map V).length:=by simp
  rw [this];exact List.take_left
theorem Jd.of_new {w:World} {base n:Nat} {v:Value} {l:Bg} (h:w.ownsRow base 5 1 v n (l.map V)) (j:v≠Bc):Jd w base v l:=by
 obtain ⟨h1,⟨rfl,_⟩ | ⟨g,b,e,rfl,hb,hg,hn,hm,hc,ht⟩⟩:=h
 ·exact absurd rfl j
 ·have:n=l.length:=by simpa using h1.symm
  subst this;exact ⟨g,b,e,(0,0),rfl,hb,hg,.inl rfl,hn,hm,by simpa using hc,by simpa using ht⟩
theorem QeV {w:World} {g:Nat} {b:Array Value} {fz:Nat×Nat} (hg:w.heap[g]?=some (.cells b 5 fz)) (x:Array Value):Jm w (w.setRow g x):=fun k cs t fr hk ht=>by
 by_cases e:k=g
 ·subst e
  rw [hg] at hk;simp at hk;exact absurd hk.2.1.symm ht
 ·exact BV w g k _ e
theorem QeH {w:World} {base g:Nat} (x:Array Value) (hb:base≤g):Below base w (w.setRow g x):=⟨rfl,rfl,rfl,by simp,fun k hk=>BV w g k _ (by omega)⟩
theorem QmD (ty:TypeId) (w:World) (base:Nat) (v x:Value) (l m:Bg) (D:Jd w base v l) (N:Nat) (hx:Bytes w N x m) (hl:l.length+m.length≤140737488355328) (G:base≤w.heap.size) :
  ∃ v' w',(Builtin.append_ #[29,29] ty #[v,x]).run prog w=.ok v' w'∧Jd w' base v' (l ++ m)∧Below base w w'∧Jm w w':=by
 obtain ⟨i0,hi,aA,C,aB⟩:=Cg Qdx;have ho:=D;obtain ⟨g,q,S,fz,rfl,hb,hg,L,hn,hm,hc,ht⟩:=D;obtain ⟨oa,ca,rfl,hca⟩:=hx.shape
 have E:m=[]∨∃ a,oa=some a∧∀ j u,(m.map V)[j]?=some u→w.cell? (a.add j)=some u:=by
  rcases hx with ⟨_,h⟩ | ⟨_,_,_,h⟩ | ⟨b,O,c,h,_,I⟩
  ·exact .inl h
  ·exact .inl h
  ·simp at h
   refine .inr ⟨_,h.1,fun j u hu=>?_⟩
   have hj:j<m.length:=by have:=(Bm.1 hu).1;simpa using this
   have z:(⟨b,O,none⟩:Addr).add j=⟨b,O+j,none⟩:=by unfold Addr.add;split <;> simp_all
   rw [z,(I j hj).2,← hu,Bs,Bk hj];simp [V,List.getD,List.getElem?_eq_getElem hj]
 by_cases e:l.length+m.length≤q
 ·have A:=Qh5 prog g l.length 5 fz (m.map V) 0 S w hg L (by simp;omega) (QuQ m)
  simp only [BK,Bp] at A;refine ⟨_,_,?_,Jd.room hb hg L hm hc ht e,QeH _ hb,QeV hg _⟩
  rcases E with rfl | ⟨a,rfl,hcells⟩
  ·have hf:(Builtin.firstCells 1 0 (.slice oa 0 ca)).run prog w=.ok #[] w:=by
    cases oa with
    | none=>exact run_firstCells_none w 1 0 0 ca
    | some a=>simpa using run_firstCells_some (P:=prog) w 1 0 a 0 ca [] rfl (fun j v h=>by simp at h)
   simp at A e;simp [Builtin.append_,run_underlying underlying29,sizeOf,typeInfo,hi,C,Builtin.lenOf,hn,hf,Addr.add_lit,A]
  ·have hf:=run_firstCells_some (P:=prog) w 1 m.length a m.length ca (m.map V) (by simp) hcells
   simp [Builtin.append_,run_underlying underlying29,sizeOf,typeInfo,hi,C,Builtin.lenOf,e,hf,Addr.add_lit,A]
 ·rcases E with rfl | ⟨a,rfl,hcells⟩
  ·simp at e;omega
  ·have M:∀ j u,(l.map V)[j]?=some u→w.cell? ((⟨g,0,none⟩:Addr).add j)=some u:=fun j u hu=>by
    have z:(⟨g,0,none⟩:Addr).add j=⟨g,j,none⟩:=by unfold Addr.add;split <;> simp_all
    rw [z];exact ho.cell j u hu
   have hr:=run_append_grow (P:=prog) w 29 ty 5 i0 (.int .u8 0) underlying29 hi aA ⟨g,0,none⟩ l.length q (l.map V) (by rw [C];simp) M a m.length ca (m.map V) (by rw [C];simp) hcells (by omega) (by omega) (by rw [aB];exact growslice_fits (by omega) (by omega))
   have T:=Du w (l.length+m.length) q 5;have Y:grownCap w (l.length+m.length) q 5≤maxLen:=DJ w (l.length+m.length) q 5 (by simp only [maxLen];omega)
   refine ⟨_,_,hr,⟨w.heap.size,_,_,(0,0),by rw [Br],G,BT w.drew _,.inl rfl,by rw [Br];exact T,Y,?_,?_⟩,?_,?_⟩
   ·have aC:(Value.int IntKind.u8 0).cells.size=1:=rfl
    simp only [Ei,D5,Dv,aC,Bp];omega
   ·simp only [DK,Cj,Br,Cc]
    have:l.length+m.length=(l.map V ++ m.map V).length:=by simp
    rw [← Cj,this];exact List.take_left
   ·exact ⟨rfl,rfl,rfl,by simp,fun k hk=>heap_alloc_old w.drew _ (show k<w.heap.size by omega)⟩
   ·intro k cs t fr hk _
    exact heap_alloc_old w.drew _ (BP.1 hk).1
theorem Qdn {j:Array Oper} {rest:List Oper} {o:Oper} {a:Act} {w:World} {Q:Exit→Act→World→Prop} (q:o.guard=none) (s x:Operand)
  (ho:o.op=.call { callee:=.builtin .append,args:=#[s,x],argTypes:=#[29,29] })
  (base:Nat) (v xv:Value) (l m:Bg) (hs:a.eval s=v) (e:Jd w base v l) (N:Nat) (hx:a.eval x=xv) (hb:Bytes w N xv m) (hl:l.length+m.length≤140737488355328) (b:base≤w.heap.size)
  (h:∀ v' w',Jd w' base v' (l ++ m)→Below base w w'→Jm w w'→wpList prog j Q rest (a.put o.dst v') w'):wpList prog j Q (o :: rest) a w:=by
 refine CW q fun K hK=>?_
 obtain ⟨v',w',hr,h2,h3,h4⟩:=QmD o.type w base v xv l m e N hb hl b;unfold Oper.wp execOp;simp only [ho,resolve,invoke,builtin,CF,CN,CO,DX,CG,DB,hs,hx,hr];exact hK _ _ (h v' w' h2 h3 h4)
theorem QmE (ty:TypeId) (w:World) (base:Nat) (v:Value) (l m:Bg) (q:Jd w base v l) (x:ByteArray) (hx:Lib.strCells x=m.map V) (hl:l.length+m.length≤140737488355328) (z:base≤w.heap.size) :
  ∃ v' w',(Builtin.append_ #[29,9] ty #[v,.string x]).run prog w=.ok v' w'∧Jd w' base v' (l ++ m)∧Below base w w'∧Jm w w':=by
 obtain ⟨i0,hi,S,I,T⟩:=Cg Qdx;have ho:=q;obtain ⟨g,b,L,fz,rfl,hb,hg,D,hn,hm,hc,ht⟩:=q;have A:x.size=m.length:=by rw [← Lib.strCells_length,hx,Bp]
 by_cases e:l.length+m.length≤b
 ·have G:=Qh5 prog g l.length 5 fz (m.map V) 0 L w hg D (by simp;omega) (QuQ m)
  simp only [BK,Bp] at G;refine ⟨_,_,?_,Jd.room hb hg D hm hc ht e,QeH _ hb,QeV hg _⟩;have hf:=Lib.run_firstCells_string (P:=prog) w 1 x;rw [hx,A] at hf;simp [Builtin.append_,run_underlying underlying29,run_underlying underlying9,sizeOf,typeInfo,hi,I,Builtin.lenOf,A,e,hf,Addr.add_lit,G]
 ·have E:∀ j u,(l.map V)[j]?=some u→w.cell? ((⟨g,0,none⟩:Addr).add j)=some u:=fun j u hu=>by
   have C:(⟨g,0,none⟩:Addr).add j=⟨g,j,none⟩:=by unfold Addr.add;split <;> simp_all
   rw [C];exact ho.cell j u hu
  have hr:=Lib.run_append_grow_string (P:=prog) w 29 9 ty 5 i0 (.int .u8 0) underlying29 underlying9 hi S ⟨g,0,none⟩ l.length b (l.map V) (by rw [I];simp) E x (by omega) (by omega) (by rw [T];exact growslice_fits (by omega) (by omega))
  rw [hx,A] at hr;have M:=Du w (l.length+m.length) b 5;have O:grownCap w (l.length+m.length) b 5≤maxLen:=DJ w (l.length+m.length) b 5 (by simp only [maxLen];omega)
  refine ⟨_,_,hr,⟨w.heap.size,_,_,(0,0),by rw [Br],z,BT w.drew _,.inl rfl,by rw [Br];exact M,O,?_,?_⟩,?_,?_⟩
  ·have Y:(Value.int IntKind.u8 0).cells.size=1:=rfl
   simp only [Ei,D5,Dv,Y,Bp];omega
  ·simp only [DK,Cj,Br,Cc]
   have:l.length+m.length=(l.map V ++ m.map V).length:=by simp
   rw [← Cj,this];exact List.take_left
  ·exact ⟨rfl,rfl,rfl,by simp,fun k hk=>heap_alloc_old w.drew _ (show k<w.heap.size by omega)⟩
  ·intro k cs t fr hk _
   exact heap_alloc_old w.drew _ (BP.1 hk).1
theorem Qis {j:Array Oper} {rest:List Oper} {o:Oper} {a:Act} {w:World} {Q:Exit→Act→World→Prop} (q:o.guard=none) (s x:Operand)
  (ho:o.op=.call { callee:=.builtin .append,args:=#[s,x],argTypes:=#[29,9] })
  (base:Nat) (v:Value) (l m:Bg) (hs:a.eval s=v) (e:Jd w base v l) (xb:ByteArray) (hx:a.eval x=.string xb) (hb:Lib.strCells xb=m.map V) (hl:l.length+m.length≤140737488355328) (b:base≤w.heap.size)
  (h:∀ v' w',Jd w' base v' (l ++ m)→Below base w w'→Jm w w'→wpList prog j Q rest (a.put o.dst v') w'):wpList prog j Q (o :: rest) a w:=by
 refine CW q fun K hK=>?_
 obtain ⟨v',w',hr,h2,h3,h4⟩:=QmE o.type w base v l m e xb hb hl b;unfold Oper.wp execOp;simp only [ho,resolve,invoke,builtin,CF,CN,CO,DX,CG,DB,hs,hx,hr];exact hK _ _ (h v' w' h2 h3 h4)
theorem Qnx (u:Nat):Lib.byteCells (Lib.decDigits u)=(Zi u).map V:=by
 unfold Lib.byteCells Zi;rw [List.map_map];refine List.map_congr_left fun x _=>?_
 simp [V,b8]
theorem Qbn (u:Nat):(Zi u).length=Lib.nDigits u:=by unfold Zi;rw [Bp,Lib.decDigits_length]
def QL (w : World) : Prop := Lib.TabIs prog w "internal/strconv.uint64pow10" .u64 Lib.pow10Tab
theorem QL.below {w w':World} (h:QL w) (hb:Bd w w'):QL w':=Lib.tabBelow_of_tabIs h w' hb
theorem Qfz (u:Nat) (hu:u<100) (l:Bg) (v:Value) (base:Nat) (w:World) (hb:base≤w.heap.size) (b:Jd w base v l) (hl:l.length≤1000000) :
  Calls prog 251 #[v,.int .u64 (u:Int),Bb 10] w fun e w'=>∃ v',e=.returned v'∧Jd w' base v' (l ++ Zi u)∧Below base w w'∧Jm w w':=by
 have HO:=hid b;have iu:decide ((u:Int)<100)=true:=BB (by omega)
 have hw64:IntKind.i64.wrap (u:Int)=(u:Int):=by rw [Cd];omega
 have hdl:(Zi u).length≤13:=Zj 12 u (by omega)
 have HS:=hid (show Lib.strCells ⟨(Lib.decDigits u).toArray⟩=(Zi u).map V by rw [Lib.strCells_toArray];exact Qnx u)
 clear b
 go_in
 go_wp2_with (first
  | (go_at_call 253;refine (Any.internal_strconv_small laysSmall283 u hu _).mono ?_;rintro e w' ⟨rfl,z⟩;obtain rfl:=z.symm)
  | (at_builtin;refine Qis rfl (.tmp 13) (.tmp 16) rfl base _ l (Zi u) rfl HO.out _ rfl HS.out (by omega) hb ?_;intro v' w1 j m q))
 go_ret;exact ⟨_,rfl,j,m,q⟩
theorem Qg0 (u:Nat) (hu:100≤u) (z:u<18446744073709551616) (l:Bg) (v:Value) (base:Nat) (w:World) (hb:base≤w.heap.size) (C:Jd w base v l) (hl:l.length≤1000000) (D:QL w) :
  Calls prog 251 #[v,.int .u64 (u:Int),Bb 10] w fun e w'=>∃ v',e=.returned v'∧Jd w' base v' (l ++ Zi u)∧Below base w w'∧Jm w w':=by
 have HO:=hid C;have Y:1≤u:=by omega
 have aC:Lib.nDigits u≤20:=by have:=Lib.numDigits_eq u Y z;split at this <;> omega
 have M:prog.arrayLen 313=24:=by kernel_rfl
 have hsl:∀ W,(Instr.sliceAt 313 (.pointer (some ⟨w.heap.size,0,none⟩)) none (some (Bb (Lib.nDigits u:Int))) none).run prog W=.ok (.slice (some ⟨w.heap.size,0,none⟩) (Lib.nDigits u) 24) W:=fun W=>by
  rw [run_sliceAt_array_h W 313 ⟨w.heap.size,0,none⟩ (by kernel_rfl) .i64 (Lib.nDigits u:Int) (by omega) (by rw [M];omega)]
  go_simp
 have hz:=Lib.holds_zero0 w 313 (Lib.nDigits u) (by omega)
 have q:=Any.internal_strconv_formatBase10 laysFmt285 w.heap.size 0 24 u (Array.replicate (Lib.nDigits u) 0) (w.alloc (.cells Lib.zeros24 313)) hz (by rw [Ej];exact Lib.lt_pow_nDigits u) z (by rw [Ej];omega)
 rw [Ej] at q;have HZ:=hid hz;have L:=hid q;have HT:=hid D;have iu:decide ((u:Int)<100)=false:=BD (by omega)
 clear hz M C q D
 go_in
 go_wp2_with (go_at_call 254;refine (Any.internal_strconv_numDigits laysDig284 u Y z _ (Lib.tabIs_alloc HT.out _)).mono ?_;rintro e w' ⟨rfl,aE⟩;obtain rfl:=aE.symm)
 refine L.out.mono ?_;rintro e W2 ⟨rfl,k,v',dk,A,hF⟩;obtain ⟨os,eo⟩:=Lib.fin_at w (.cells Lib.zeros24 313) dk k 0;have G:Bd w W2:=by rw [A,eo];exact Lib.below_grow w.heap.size w (Bj _) k os
 have m:∀ j,j<(Zi u).length→W2.cell? ⟨w.heap.size,0+j,none⟩=some (.int .u8 (b8 ((Zi u).getD j 0))):=by
  intro j hj;have S:j<Lib.nDigits u:=by rw [← Qbn];exact hj
  have aB:j<(Lib.decDigits u).length:=by rw [Lib.decDigits_length];exact S
  rw [A,World.cell?_drewN,Sort.cell?_putRow (fun (b:UInt8)=>Value.int .u8 (b.toNat:Int)) _ w.heap.size 0 _ dk HZ.out (by rw [hF.size,Ej]) j (by rw [hF.size];exact S),← Lib.row_is_numeral hF j aB]
  congr 2
  rw [List.getD,Bk hj,Option.getD_some];simp [Zi,b8]
 have aD:w.heap.size<W2.heap.size:=by
  rw [A];simp [World.drewN,Sort.putRow,Sort.mapBlock]
 have HX:=hid (show Bytes W2 W2.heap.size (.slice (some ⟨w.heap.size,0,none⟩) (Lib.nDigits u) 24) (Zi u) from .inr (.inr ⟨w.heap.size,0,24,by rw [Qbn],by rw [Qbn];omega,fun i hi=>⟨aD,m i hi⟩⟩))
 have E:=hid G;have aA:=hid (HO.out.below G);have hln:(Zi u).length≤20:=by rw [Qbn];exact aC
 clear A hF eo m G L HZ
 go_wp2_with (at_builtin;refine Qdn rfl (.tmp 24) (.tmp 26) rfl base _ _ l (Zi u) rfl aA.out _ rfl HX.out (by omega) (Bh hb E.out.size) ?_;intro v2 w3 I O T)
 go_ret;refine ⟨_,rfl,I,(E.out.mono hb).trans O,Jm.trans ?_ T⟩;exact fun k cs t fr hk _=>E.out.block k (BP.1 hk).1
theorem QgZ (u:Nat) (m:u<18446744073709551616) (l:Bg) (v:Value) (base:Nat) (w:World) (hb:base≤w.heap.size) (b:Jd w base v l) (hl:l.length≤1000000) (j:QL w) :
  Calls prog 251 #[v,.int .u64 (u:Int),Bb 10] w fun e w'=>∃ v',e=.returned v'∧Jd w' base v' (l ++ Zi u)∧Below base w w'∧Jm w w':=by
 by_cases h:u<100
 ·exact Qfz u h l v base w hb b hl
 ·exact Qg0 u (by omega) m l v base w hb b hl j
theorem QgY (u:Nat) (hu:u≤9223372036854775807) (l:Bg) (v:Value) (base:Nat) (w:World) (hb:base≤w.heap.size) (b:Jd w base v l) (hl:l.length≤1000000) (j:QL w) :
  Calls prog 228 #[v,Bb (u:Int),Bb 10] w fun e w'=>∃ v',e=.returned v'∧Jd w' base v' (l ++ Zi u)∧Below base w w'∧Jm w w':=by
 have HC:=hid (QgZ u (by omega) l v base w hb b hl j)
 have e0:decide ((u:Int)<0)=false:=BD (by omega)
 have hw64:IntKind.u64.wrap (u:Int)=(u:Int):=by rw [Ek];omega
 clear b j
 go_in
 go_wp2_with (go_at_call 251;refine (HC.out).mono ?_;rintro e w' ⟨v',rfl,z,m,q⟩)
 go_ret;exact ⟨_,rfl,z,m,q⟩
theorem QiE (u:Nat) (hu:u≤9223372036854775807) (l:Bg) (v:Value) (base:Nat) (w:World) (hb:base≤w.heap.size) (b:Jd w base v l) (hl:l.length≤1000000) (j:QL w) :
  Calls prog 191 #[v,Bb (u:Int),Bb 10] w fun e w'=>∃ v',e=.returned v'∧Jd w' base v' (l ++ Zi u)∧Below base w w'∧Jm w w':=by
 have HC:=hid (QgY u hu l v base w hb b hl j);clear b j
 go_in
 go_wp2_with (go_at_call 228;refine (HC.out).mono ?_;rintro e w' ⟨v',rfl,z,m,q⟩)
 go_ret;exact ⟨_,rfl,z,m,q⟩
end Go.Proofs.YtnedafiokmjkkaaGreatDoor
