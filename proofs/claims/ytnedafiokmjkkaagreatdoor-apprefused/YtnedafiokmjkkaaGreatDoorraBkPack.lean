/- A transfer as bytes. -/
import Derived.Test.YtnedafiokmjkkaaGreatDoorraHdCheck
import Derived.Test.YtnedafiokmjkkaaGreatDoorraBkPut
import Derived.Test.YtnedafiokmjkkaaGreatDoorraPkMath
import Derived.Lib.AppendIntMem
import Derived.Lib.FrozenHead
import Derived.Lib.ItoaLen
namespace Go.Proofs.YtnedafiokmjkkaaGreatDoor
open Tryz
set_option maxRecDepth 1000000
set_option maxHeartbeats 8000000
open Go.RowKit
variable {w w':World} {N g k n:Nat} {v:Value} {l:List (BitVec 8)} {o:Oper} {a:Act} {Q:Exit→Act→World→Prop} {cs:List Value}
structure Tr where
 denom:ByteArray
 amount:Nat
 sender:ByteArray
 reader:ByteArray
def Tr.fits (t:Tr):Prop:=t.denom.size≤140737488351232∧t.amount<18446744073709551616∧t.sender.size≤140737488351232∧t.reader.size≤140737488351232
structure Ms where
 kind:Int
 chain:ByteArray
 trust:Int
 known:Kn
 client:Int
 upd:Up
 sec:Up
 other:Int
 oend:Int
 fin:Int
 ordered:Bool
 sh:Sh
 tr:Tr
 tmo:Int
 next:Int
 pk:Pk
 ack:Bg
def Ms.fits (m:Ms):Prop:=m.chain.size≤140737488351232∧m.known.fits∧m.upd.fits∧m.sec.fits∧m.sh.fits∧m.tr.fits∧m.pk.fits∧m.ack.length≤140737488351232
def msC (m:Ms) (o:Nat→Option Addr) (c:Nat→Nat):List Value:=[Bb m.kind,.string m.chain,Bb m.trust,Bb m.known.height,Bb m.known.time,.slice (o 0) m.known.root.length (c 0),.slice (o 1) m.known.next.length (c 1),Bb m.client,Bb m.upd.frm,.string m.upd.sg.hd.chain,Bb m.upd.sg.hd.height,Bb m.upd.sg.hd.time,.slice (o 2) m.upd.sg.hd.root.length (c 2),.slice (o 3) m.upd.sg.hd.vals.length (c 3),.slice (o 4) m.upd.sg.hd.next.length (c 4),.slice (o 5) m.upd.sg.vals.length (c 5),.slice (o 6) m.upd.sg.votes.length (c 6),.slice (o 7) m.upd.trusted.length (c 7),Bb m.sec.frm,.string m.sec.sg.hd.chain,Bb m.sec.sg.hd.height,Bb m.sec.sg.hd.time,.slice (o 8) m.sec.sg.hd.root.length (c 8),.slice (o 9) m.sec.sg.hd.vals.length (c 9),.slice (o 10) m.sec.sg.hd.next.length (c 10),.slice (o 11) m.sec.sg.vals.length (c 11),.slice (o 12) m.sec.sg.votes.length (c 12),.slice (o 13) m.sec.trusted.length (c 13),Bb m.other,Bb m.oend,Bb m.fin,.bool m.ordered,Bb m.sh.height,Bb m.sh.prf.index,Bb m.sh.prf.size,.slice (o 14) m.sh.prf.key.length (c 14),.slice (o 15) m.sh.prf.val.length (c 15),.slice (o 16) m.sh.prf.path.length (c 16),.bool m.sh.gap.hasL,.bool m.sh.gap.hasR,Bb m.sh.gap.left.index,Bb m.sh.gap.left.size,.slice (o 17) m.sh.gap.left.key.length (c 17),.slice (o 18) m.sh.gap.left.val.length (c 18),.slice (o 19) m.sh.gap.left.path.length (c 19),Bb m.sh.gap.right.index,Bb m.sh.gap.right.size,.slice (o 20) m.sh.gap.right.key.length (c 20),.slice (o 21) m.sh.gap.right.val.length (c 21),.slice (o 22) m.sh.gap.right.path.length (c 22),.string m.tr.denom,.int .u64 (m.tr.amount:Int),.string m.tr.sender,.string m.tr.reader,Bb m.tmo,Bb m.next,Bb m.pk.src,Bb m.pk.dst,Bb m.pk.seq,.slice (o 23) m.pk.data.length (c 23),Bb m.pk.tmo,.slice (o 24) m.ack.length (c 24)]
structure MsM (w:World) (N:Nat) (m:Ms) (o:Nat→Option Addr) (c:Nat→Nat):Prop where
 known:KnV w N (.agg #[Bb m.known.height,Bb m.known.time,.slice (o 0) m.known.root.length (c 0),.slice (o 1) m.known.next.length (c 1)]) m.known
 upd:UpV w N (.agg #[Bb m.upd.frm,.string m.upd.sg.hd.chain,Bb m.upd.sg.hd.height,Bb m.upd.sg.hd.time,.slice (o 2) m.upd.sg.hd.root.length (c 2),.slice (o 3) m.upd.sg.hd.vals.length (c 3),.slice (o 4) m.upd.sg.hd.next.length (c 4),.slice (o 5) m.upd.sg.vals.length (c 5),.slice (o 6) m.upd.sg.votes.length (c 6),.slice (o 7) m.upd.trusted.length (c 7)]) m.upd
 sec:UpV w N (.agg #[Bb m.sec.frm,.string m.sec.sg.hd.chain,Bb m.sec.sg.hd.height,Bb m.sec.sg.hd.time,.slice (o 8) m.sec.sg.hd.root.length (c 8),.slice (o 9) m.sec.sg.hd.vals.length (c 9),.slice (o 10) m.sec.sg.hd.next.length (c 10),.slice (o 11) m.sec.sg.vals.length (c 11),.slice (o 12) m.sec.sg.votes.length (c 12),.slice (o 13) m.sec.trusted.length (c 13)]) m.sec
 sh:ShV w N (.agg #[Bb m.sh.height,Bb m.sh.prf.index,Bb m.sh.prf.size,.slice (o 14) m.sh.prf.key.length (c 14),.slice (o 15) m.sh.prf.val.length (c 15),.slice (o 16) m.sh.prf.path.length (c 16),.bool m.sh.gap.hasL,.bool m.sh.gap.hasR,Bb m.sh.gap.left.index,Bb m.sh.gap.left.size,.slice (o 17) m.sh.gap.left.key.length (c 17),.slice (o 18) m.sh.gap.left.val.length (c 18),.slice (o 19) m.sh.gap.left.path.length (c 19),Bb m.sh.gap.right.index,Bb m.sh.gap.right.size,.slice (o 20) m.sh.gap.right.key.length (c 20),.slice (o 21) m.sh.gap.right.val.length (c 21),.slice (o 22) m.sh.gap.right.path.length (c 22)]) m.sh
 pk:PkV w N (.agg #[Bb m.pk.src,Bb m.pk.dst,Bb m.pk.seq,.slice (o 23) m.pk.data.length (c 23),Bb m.pk.tmo]) m.pk
 ack:Bytes w N (.slice (o 24) m.ack.length (c 24)) m.ack
def MsV (w:World) (N:Nat) (v:Value) (m:Ms):Prop:=∃ o c,v=.agg (msC m o c).toArray∧MsM w N m o c
theorem MsM.below {m:Ms} {o:Nat→Option Addr} {c:Nat→Nat} (h:MsM w N m o c) (hg:Below N w w'):MsM w' N m o c:=⟨h.known.below hg,h.upd.below hg,h.sec.below hg,h.sh.below hg,h.pk.below hg,h.ack.below hg⟩
theorem MsM.mono {m:Ms} {o:Nat→Option Addr} {c:Nat→Nat} (h:MsM w N m o c) (hN:N≤g):MsM w g m o c:=⟨h.known.mono hN,h.upd.mono hN,h.sec.mono hN,h.sh.mono hN,h.pk.mono hN,h.ack.mono hN⟩
theorem MsV.below {m:Ms} (h:MsV w N v m) (hg:Below N w w'):MsV w' N v m:=by
 obtain ⟨o,c,e,h⟩:=h;exact ⟨o,c,e,h.below hg⟩
theorem MsV.mono {m:Ms} (h:MsV w N v m) (hN:N≤g):MsV w g v m:=by
 obtain ⟨o,c,e,h⟩:=h;exact ⟨o,c,e,h.mono hN⟩
def Jc (w:World) (base:Nat) (v:Value) (l:Bg):Prop :=
 ∃ g cap cur fz,v=.slice (some ⟨g,0,none⟩) l.length cap∧base≤g∧w.heap[g]?=some (.cells cur 5 fz)∧(fz.2=0∨cur.size≤fz.1)∧l.length≤cap∧cap≤maxLen∧cur.size=cap∧cur.toList.take l.length=l.map V
theorem Jc.lt {base:Nat} (h:Jc w base v l):∃ g,v.ownBlock=some g∧base≤g∧g<w.heap.size:=by
 obtain ⟨g,cap,cur,fz,rfl,hb,hg,_⟩:=h;exact ⟨g,rfl,hb,(BN.1 hg).1⟩
theorem Jc.below {base:Nat} (h:Jc w base v l) (hb:Bd w w'):Jc w' base v l:=by
 obtain ⟨g,b,d,fz,h1,h2,hg,h3⟩:=h;exact ⟨g,b,d,fz,h1,h2,(hb.block g (BN.1 hg).1).trans hg,h3⟩
theorem Jc.shape {base:Nat} (h:Jc w base v l):∃ oa b,v=.slice oa l.length b:=by
 obtain ⟨g,b,cur,fz,rfl,_⟩:=h;exact ⟨_,_,rfl⟩
theorem Jc.cell {base:Nat} {c:Nat} (h:Jc w base (.slice (some ⟨g,0,none⟩) l.length c) l) (j:Nat) (u:Value) (hu:(l.map V)[j]?=some u):w.cell? ⟨g,j,none⟩=some u:=by
 obtain ⟨g',cap,b,fz,e,hb,hg,hfz,hn,hm,hc,ht⟩:=h;simp at e;obtain ⟨rfl,rfl⟩:=e;have hj:j<l.length:=by have:=(Bm.1 hu).1;simpa using this
 rw [CD w g j b _ fz hg,← hu,← ht,BE,if_pos hj,Dn]
theorem Jc.bytes {base:Nat} (h:Jc w base v l):Bytes w w.heap.size v l:=by
 have h':=h;obtain ⟨g,b,cur,fz,rfl,hb,hg,hfz,hn,hm,hc,ht⟩:=h;refine .inr (.inr ⟨g,0,b,rfl,hn,fun i hi=>⟨(BN.1 hg).1,?_⟩⟩)
 rw [Bq];refine h'.cell i _ ?_;rw [Bt,Bk hi];simp [V,List.getD,List.getElem?_eq_getElem hi]
theorem Qh0 (P:Program) (g o:Nat) (t:TypeId) (fz:Nat×Nat):∀ (vs:List Value) (i:Nat) (b:Array Value) (w:World),w.heap[g]?=some (.cells b t fz)→(fz.2=0∨b.size≤fz.1)→o+i+vs.length≤b.size→(∀ v∈vs,v.oneCell'=true) →
  (storeCells ⟨g,o,none⟩ vs i).run P w=.ok () (w.setRow g (b.toList.take (o+i) ++ vs ++ b.toList.drop (o+i+vs.length)).toArray):=by
 intro vs
 induction vs with
 | nil =>
  intro i b w hg _ _ _;have e:(b.toList.take (o+i) ++ [] ++ b.toList.drop (o+i+([]:List Value).length)).toArray=b:=by simp
  rw [e,setRow_self w g b t fz hg];rfl
 | cons v rest ih =>
  intro i b w hg j hl h1;rw [Cy] at hl;have hi:o+i<b.size:=by omega
  have m:(⟨g,o,none⟩:Addr).add i=⟨g,o+i,none⟩:=by unfold Addr.add;split <;> simp_all
  have d:w.cell? ⟨g,o+i,none⟩=some b[o+i]:=by simp [World.cell?,hg,hi]
  have q:w.frozen? ⟨g,o+i,none⟩=false:=by
   obtain ⟨lo,up⟩:=fz;simp only [World.frozen?,hg];simp only at j;rw [Bool.and_eq_false_iff]
   rcases j with h | h
   ·right;simp;omega
   ·left;simp;omega
  have z:(store ((⟨g,o,none⟩:Addr).add i) v).run P w=.ok () (w.setRow g (b.setIfInBounds (o+i) v)):=by
   rw [m,run_store P w _ v _ (h1 v Cj),d];simp [q,setCell_eq_setRow w g (o+i) b t fz v hg]
  have hr:=ih (i+1) (b.setIfInBounds (o+i) v) (w.setRow g (b.setIfInBounds (o+i) v)) (Cm w g b _ t _ hg) (by rw [Es];exact j) (by rw [Es];omega) (fun x hx=>h1 x (Cr _ hx))
  rw [storeCells,Cz,z,CH,hr,setRow_setRow];have e:=list_seg_step b.toList (o+i) v rest (by simp;omega)
  congr 3
  simpa [Array.toList_setIfInBounds,Nat.add_assoc] using e
theorem QuG (l:Bg):∀ u∈l.map V,u.oneCell'=true:=by
 intro u hu;obtain ⟨b,_,rfl⟩:=BD.1 hu;rfl
theorem Jc.room {base d:Nat} {b:Array Value} {fz:Nat×Nat} {m:Bg} (hb:base≤g) (hg:w.heap[g]?=some (.cells b 5 fz)) (j:fz.2=0∨b.size≤fz.1) (hm:d≤maxLen) (hc:b.size=d) (ht:b.toList.take l.length=l.map V) (e:l.length+m.length≤d) :
  Jc (w.setRow g (b.toList.take l.length ++ m.map V ++ b.toList.drop (l.length+m.length)).toArray) base (.slice (some ⟨g,0,none⟩) (l.length+m.length) d) (l ++ m):=by
 refine ⟨g,d,_,fz,by rw [Bs],hb,Cm w g b _ _ _ hg,?_,by rw [Bs];exact e,hm,?_,?_⟩
 ·have:(b.toList.take l.length ++ m.map V ++ b.toList.drop (l.length+m.length)).toArray.size=b.size:=by
   simp only [D4,Bs,C2,Df,D2,Bp];omega
  rw [this];exact j
 ·simp only [D4,Bs,C2,Df,D2,Bp]
  omega
 ·rw [ht,Bs,Cc]
  have:l.length+m.length=(l.map V ++ m.map V).length:=by simp
  rw [this];exact List.take_left
theorem Jc.of_new {base:Nat} (h:w.ownsRow base 5 1 v n (l.map V)) (e:v≠Bc):Jc w base v l:=by
 obtain ⟨h1,⟨rfl,_⟩ | ⟨g,b,d,rfl,hb,hg,hn,hm,hc,ht⟩⟩:=h
 ·exact absurd rfl e
 ·have:n=l.length:=by simpa using h1.symm
  subst this;exact ⟨g,b,d,(0,0),rfl,hb,hg,.inl rfl,hn,hm,by simpa using hc,by simpa using ht⟩
theorem QeR {b:Array Value} {fz:Nat×Nat} (hg:w.heap[g]?=some (.cells b 5 fz)) (x:Array Value):Jl w (w.setRow g x):=fun k cs t fr hk ht=>by
 by_cases e:k=g
 ·subst e
  rw [hg] at hk;simp at hk;exact absurd hk.2.1.symm ht
 ·exact BV w g k _ e
theorem QeD {base:Nat} (x:Array Value) (hb:base≤g):Below base w (w.setRow g x):=⟨rfl,rfl,rfl,by simp,fun k hk=>BV w g k _ (by omega)⟩
theorem Qmj (ty:TypeId) (w:World) (base:Nat) (v x:Value) (l m:Bg) (C:Jc w base v l) (N:Nat) (hx:Bytes w N x m) (hl:l.length+m.length≤140737488355328) (E:base≤w.heap.size) :
  ∃ v' w',(Builtin.append_ #[29,29] ty #[v,x]).run prog w=.ok v' w'∧Jc w' base v' (l ++ m)∧Below base w w'∧Jl w w':=by
 obtain ⟨i0,hi,Y,A,aA⟩:=Ci Qdt;have ho:=C;obtain ⟨g,e,O,fz,rfl,hb,hg,I,hn,hm,hc,ht⟩:=C;obtain ⟨oa,ca,rfl,hca⟩:=hx.shape
 have D:m=[]∨∃ a,oa=some a∧∀ j u,(m.map V)[j]?=some u→w.cell? (a.add j)=some u:=by
  rcases hx with ⟨_,h⟩ | ⟨_,_,_,h⟩ | ⟨b,M,c,h,_,G⟩
  ·exact .inl h
  ·exact .inl h
  ·simp at h
   refine .inr ⟨_,h.1,fun j u hu=>?_⟩
   have hj:j<m.length:=by have:=(Bm.1 hu).1;simpa using this
   have q:(⟨b,M,none⟩:Addr).add j=⟨b,M+j,none⟩:=by unfold Addr.add;split <;> simp_all
   rw [q,(G j hj).2,← hu,Bt,Bk hj];simp [V,List.getD,List.getElem?_eq_getElem hj]
 by_cases d:l.length+m.length≤e
 ·have z:=Qh0 prog g l.length 5 fz (m.map V) 0 O w hg I (by simp;omega) (QuG m)
  simp only [BI,Bp] at z;refine ⟨_,_,?_,Jc.room hb hg I hm hc ht d,QeD _ hb,QeR hg _⟩
  rcases D with rfl | ⟨a,rfl,hcells⟩
  ·have hf:(Builtin.firstCells 1 0 (.slice oa 0 ca)).run prog w=.ok #[] w:=by
    cases oa with
    | none=>exact run_firstCells_none w 1 0 0 ca
    | some a=>simpa using run_firstCells_some (P:=prog) w 1 0 a 0 ca [] rfl (fun j v h=>by simp at h)
   simp at z d;simp [Builtin.append_,run_underlying underlying29,sizeOf,typeInfo,hi,A,Builtin.lenOf,hn,hf,Addr.add_lit,z]
  ·have hf:=run_firstCells_some (P:=prog) w 1 m.length a m.length ca (m.map V) (by simp) hcells
   simp [Builtin.append_,run_underlying underlying29,sizeOf,typeInfo,hi,A,Builtin.lenOf,d,hf,Addr.add_lit,z]
 ·rcases D with rfl | ⟨a,rfl,hcells⟩
  ·simp at d;omega
  ·have L:∀ j u,(l.map V)[j]?=some u→w.cell? ((⟨g,0,none⟩:Addr).add j)=some u:=fun j u hu=>by
    have q:(⟨g,0,none⟩:Addr).add j=⟨g,j,none⟩:=by unfold Addr.add;split <;> simp_all
    rw [q];exact ho.cell j u hu
   have hr:=run_append_grow (P:=prog) w 29 ty 5 i0 (.int .u8 0) underlying29 hi Y ⟨g,0,none⟩ l.length e (l.map V) (by rw [A];simp) L a m.length ca (m.map V) (by rw [A];simp) hcells (by omega) (by omega) (by rw [aA];exact growslice_fits (by omega) (by omega))
   have S:=Du w (l.length+m.length) e 5;have T:grownCap w (l.length+m.length) e 5≤maxLen:=DJ w (l.length+m.length) e 5 (by simp only [maxLen];omega)
   refine ⟨_,_,hr,⟨w.heap.size,_,_,(0,0),by rw [Bs],E,BT w.drew _,.inl rfl,by rw [Bs];exact S,T,?_,?_⟩,?_,?_⟩
   ·have aB:(Value.int IntKind.u8 0).cells.size=1:=rfl
    simp only [Ei,D4,Dv,aB,Bp];omega
   ·simp only [DK,Ck,Bs,Cc]
    have:l.length+m.length=(l.map V ++ m.map V).length:=by simp
    rw [← Ck,this];exact List.take_left
   ·exact ⟨rfl,rfl,rfl,by simp,fun k hk=>heap_alloc_old w.drew _ (show k<w.heap.size by omega)⟩
   ·intro k cs t fr hk _
    exact heap_alloc_old w.drew _ (BN.1 hk).1
theorem Qdk {e:Array Oper} {rest:List Oper} (j:o.guard=none) (s x:Operand)
  (ho:o.op=.call { callee:=.builtin .append,args:=#[s,x],argTypes:=#[29,29] })
  (base:Nat) (v xv:Value) (l m:Bg) (hs:a.eval s=v) (d:Jc w base v l) (N:Nat) (hx:a.eval x=xv) (hb:Bytes w N xv m) (hl:l.length+m.length≤140737488355328) (b:base≤w.heap.size)
  (h:∀ v' w',Jc w' base v' (l ++ m)→Below base w w'→Jl w w'→wpList prog e Q rest (a.put o.dst v') w'):wpList prog e Q (o :: rest) a w:=by
 refine CW j fun K hK=>?_
 obtain ⟨v',w',hr,h2,h3,h4⟩:=Qmj o.type w base v xv l m d N hb hl b;unfold Oper.wp execOp;simp only [ho,resolve,invoke,builtin,Cz,CG,CH,DW,CI,DB,hs,hx,hr];exact hK _ _ (h v' w' h2 h3 h4)
theorem Qmk (ty:TypeId) (w:World) (base:Nat) (v:Value) (l m:Bg) (e:Jc w base v l) (x:ByteArray) (hx:Lib.strCells x=m.map V) (hl:l.length+m.length≤140737488355328) (q:base≤w.heap.size) :
  ∃ v' w',(Builtin.append_ #[29,9] ty #[v,.string x]).run prog w=.ok v' w'∧Jc w' base v' (l ++ m)∧Below base w w'∧Jl w w':=by
 obtain ⟨i0,hi,O,G,S⟩:=Ci Qdt;have ho:=e;obtain ⟨g,b,I,fz,rfl,hb,hg,C,hn,hm,hc,ht⟩:=e;have z:x.size=m.length:=by rw [← Lib.strCells_length,hx,Bp]
 by_cases d:l.length+m.length≤b
 ·have E:=Qh0 prog g l.length 5 fz (m.map V) 0 I w hg C (by simp;omega) (QuG m)
  simp only [BI,Bp] at E;refine ⟨_,_,?_,Jc.room hb hg C hm hc ht d,QeD _ hb,QeR hg _⟩;have hf:=Lib.run_firstCells_string (P:=prog) w 1 x;rw [hx,z] at hf;simp [Builtin.append_,run_underlying underlying29,run_underlying underlying9,sizeOf,typeInfo,hi,G,Builtin.lenOf,z,d,hf,Addr.add_lit,E]
 ·have D:∀ j u,(l.map V)[j]?=some u→w.cell? ((⟨g,0,none⟩:Addr).add j)=some u:=fun j u hu=>by
   have A:(⟨g,0,none⟩:Addr).add j=⟨g,j,none⟩:=by unfold Addr.add;split <;> simp_all
   rw [A];exact ho.cell j u hu
  have hr:=Lib.run_append_grow_string (P:=prog) w 29 9 ty 5 i0 (.int .u8 0) underlying29 underlying9 hi O ⟨g,0,none⟩ l.length b (l.map V) (by rw [G];simp) D x (by omega) (by omega) (by rw [S];exact growslice_fits (by omega) (by omega))
  rw [hx,z] at hr;have L:=Du w (l.length+m.length) b 5;have M:grownCap w (l.length+m.length) b 5≤maxLen:=DJ w (l.length+m.length) b 5 (by simp only [maxLen];omega)
  refine ⟨_,_,hr,⟨w.heap.size,_,_,(0,0),by rw [Bs],q,BT w.drew _,.inl rfl,by rw [Bs];exact L,M,?_,?_⟩,?_,?_⟩
  ·have T:(Value.int IntKind.u8 0).cells.size=1:=rfl
   simp only [Ei,D4,Dv,T,Bp];omega
  ·simp only [DK,Ck,Bs,Cc]
   have:l.length+m.length=(l.map V ++ m.map V).length:=by simp
   rw [← Ck,this];exact List.take_left
  ·exact ⟨rfl,rfl,rfl,by simp,fun k hk=>heap_alloc_old w.drew _ (show k<w.heap.size by omega)⟩
  ·intro k cs t fr hk _
   exact heap_alloc_old w.drew _ (BN.1 hk).1
theorem Qim {e:Array Oper} {rest:List Oper} (j:o.guard=none) (s x:Operand)
  (ho:o.op=.call { callee:=.builtin .append,args:=#[s,x],argTypes:=#[29,9] })
  (base:Nat) (v:Value) (l m:Bg) (hs:a.eval s=v) (d:Jc w base v l) (xb:ByteArray) (hx:a.eval x=.string xb) (hb:Lib.strCells xb=m.map V) (hl:l.length+m.length≤140737488355328) (b:base≤w.heap.size)
  (h:∀ v' w',Jc w' base v' (l ++ m)→Below base w w'→Jl w w'→wpList prog e Q rest (a.put o.dst v') w'):wpList prog e Q (o :: rest) a w:=by
 refine CW j fun K hK=>?_
 obtain ⟨v',w',hr,h2,h3,h4⟩:=Qmk o.type w base v l m d xb hb hl b;unfold Oper.wp execOp;simp only [ho,resolve,invoke,builtin,Cz,CG,CH,DW,CI,DB,hs,hx,hr];exact hK _ _ (h v' w' h2 h3 h4)
theorem Qnc (u:Nat):Lib.byteCells (Lib.decDigits u)=(ZL u).map V:=by
 unfold Lib.byteCells ZL;rw [List.map_map];refine List.map_congr_left fun x _=>?_
 simp [V,b8]
theorem Qbi (u:Nat):(ZL u).length=Lib.nDigits u:=by unfold ZL;rw [Bp,Lib.decDigits_length]
def QL (w : World) : Prop := Lib.TabIs prog w "internal/strconv.uint64pow10" .u64 Lib.pow10Tab
theorem QL.below (h:QL w) (hb:Bd w w'):QL w':=Lib.tabBelow_of_tabIs h w' hb
theorem Qfu (u:Nat) (hu:u<100) (l:Bg) (v:Value) (base:Nat) (w:World) (hb:base≤w.heap.size) (b:Jc w base v l) (hl:l.length≤1000000) :
  Calls prog 251 #[v,.int .u64 (u:Int),Bb 10] w fun e w'=>∃ v',e=.returned v'∧Jc w' base v' (l ++ ZL u)∧Below base w w'∧Jl w w':=by
 have HO:=hid b;have iu:decide ((u:Int)<100)=true:=BB (by omega)
 have hw64:IntKind.i64.wrap (u:Int)=(u:Int):=by rw [Ce];omega
 have hdl:(ZL u).length≤13:=Qag 12 u (by omega)
 have HS:=hid (show Lib.strCells ⟨(Lib.decDigits u).toArray⟩=(ZL u).map V by rw [Lib.strCells_toArray];exact Qnc u)
 clear b
 go_in
 go_wp2_with (first
  | (go_at_call 253;refine (Any.internal_strconv_small laysSmall283 u hu _).mono ?_;rintro e w' ⟨rfl,q⟩;obtain rfl:=q.symm)
  | (at_builtin;refine Qim rfl (.tmp 13) (.tmp 16) rfl base _ l (ZL u) rfl HO.out _ rfl HS.out (by omega) hb ?_;intro v' w1 d j m))
 go_ret;exact ⟨_,rfl,d,j,m⟩
theorem QgX (u:Nat) (hu:100≤u) (q:u<18446744073709551616) (l:Bg) (v:Value) (base:Nat) (w:World) (hb:base≤w.heap.size) (A:Jc w base v l) (hl:l.length≤1000000) (C:QL w) :
  Calls prog 251 #[v,.int .u64 (u:Int),Bb 10] w fun e w'=>∃ v',e=.returned v'∧Jc w' base v' (l ++ ZL u)∧Below base w w'∧Jl w w':=by
 have HO:=hid A;have T:1≤u:=by omega
 have aB:Lib.nDigits u≤20:=by have:=Lib.numDigits_eq u T q;split at this <;> omega
 have L:prog.arrayLen 313=24:=by kernel_rfl
 have hsl:∀ W,(Instr.sliceAt 313 (.pointer (some ⟨w.heap.size,0,none⟩)) none (some (Bb (Lib.nDigits u:Int))) none).run prog W=.ok (.slice (some ⟨w.heap.size,0,none⟩) (Lib.nDigits u) 24) W:=fun W=>by
  rw [run_sliceAt_array_h W 313 ⟨w.heap.size,0,none⟩ (by kernel_rfl) .i64 (Lib.nDigits u:Int) (by omega) (by rw [L];omega)]
  go_simp
 have hz:=Lib.holds_zero0 w 313 (Lib.nDigits u) (by omega)
 have m:=Any.internal_strconv_formatBase10 laysFmt285 w.heap.size 0 24 u (Array.replicate (Lib.nDigits u) 0) (w.alloc (.cells Lib.zeros24 313)) hz (by rw [Ej];exact Lib.lt_pow_nDigits u) q (by rw [Ej];omega)
 rw [Ej] at m;have HZ:=hid hz;have I:=hid m;have HT:=hid C;have iu:decide ((u:Int)<100)=false:=BC (by omega)
 clear hz L A m C
 go_in
 go_wp2_with (go_at_call 254;refine (Any.internal_strconv_numDigits laysDig284 u T q _ (Lib.tabIs_alloc HT.out _)).mono ?_;rintro e w' ⟨rfl,aD⟩;obtain rfl:=aD.symm)
 refine I.out.mono ?_;rintro e W2 ⟨rfl,k,v',dk,z,hF⟩;obtain ⟨os,eo⟩:=Lib.fin_at w (.cells Lib.zeros24 313) dk k 0;have E:Bd w W2:=by rw [z,eo];exact Lib.below_grow w.heap.size w (Bj _) k os
 have d:∀ j,j<(ZL u).length→W2.cell? ⟨w.heap.size,0+j,none⟩=some (.int .u8 (b8 ((ZL u).getD j 0))):=by
  intro j hj;have O:j<Lib.nDigits u:=by rw [← Qbi];exact hj
  have aA:j<(Lib.decDigits u).length:=by rw [Lib.decDigits_length];exact O
  rw [z,World.cell?_drewN,Sort.cell?_putRow (fun (b:UInt8)=>Value.int .u8 (b.toNat:Int)) _ w.heap.size 0 _ dk HZ.out (by rw [hF.size,Ej]) j (by rw [hF.size];exact O),← Lib.row_is_numeral hF j aA]
  congr 2
  rw [List.getD,Bk hj,Option.getD_some];simp [ZL,b8]
 have aC:w.heap.size<W2.heap.size:=by
  rw [z];simp [World.drewN,Sort.putRow,Sort.mapBlock]
 have HX:=hid (show Bytes W2 W2.heap.size (.slice (some ⟨w.heap.size,0,none⟩) (Lib.nDigits u) 24) (ZL u) from .inr (.inr ⟨w.heap.size,0,24,by rw [Qbi],by rw [Qbi];omega,fun i hi=>⟨aC,d i hi⟩⟩))
 have D:=hid E;have Y:=hid (HO.out.below E);have hln:(ZL u).length≤20:=by rw [Qbi];exact aB
 clear z hF eo d E I HZ
 go_wp2_with (at_builtin;refine Qdk rfl (.tmp 24) (.tmp 26) rfl base _ _ l (ZL u) rfl Y.out _ rfl HX.out (by omega) (Bh hb D.out.size) ?_;intro v2 w3 G M S)
 go_ret;refine ⟨_,rfl,G,(D.out.mono hb).trans M,Jl.trans ?_ S⟩;exact fun k cs t fr hk _=>D.out.block k (BN.1 hk).1
theorem QgW (u:Nat) (j:u<18446744073709551616) (l:Bg) (v:Value) (base:Nat) (w:World) (hb:base≤w.heap.size) (b:Jc w base v l) (hl:l.length≤1000000) (d:QL w) :
  Calls prog 251 #[v,.int .u64 (u:Int),Bb 10] w fun e w'=>∃ v',e=.returned v'∧Jc w' base v' (l ++ ZL u)∧Below base w w'∧Jl w w':=by
 by_cases h:u<100
 ·exact Qfu u h l v base w hb b hl
 ·exact QgX u (by omega) j l v base w hb b hl d
theorem QgV (u:Nat) (hu:u≤9223372036854775807) (l:Bg) (v:Value) (base:Nat) (w:World) (hb:base≤w.heap.size) (b:Jc w base v l) (hl:l.length≤1000000) (d:QL w) :
  Calls prog 228 #[v,Bb (u:Int),Bb 10] w fun e w'=>∃ v',e=.returned v'∧Jc w' base v' (l ++ ZL u)∧Below base w w'∧Jl w w':=by
 have HC:=hid (QgW u (by omega) l v base w hb b hl d)
 have e0:decide ((u:Int)<0)=false:=BC (by omega)
 have hw64:IntKind.u64.wrap (u:Int)=(u:Int):=by rw [Ek];omega
 clear b d
 go_in
 go_wp2_with (go_at_call 251;refine (HC.out).mono ?_;rintro e w' ⟨v',rfl,q,j,m⟩)
 go_ret;exact ⟨_,rfl,q,j,m⟩
theorem Qiv (u:Nat) (hu:u≤9223372036854775807) (l:Bg) (v:Value) (base:Nat) (w:World) (hb:base≤w.heap.size) (b:Jc w base v l) (hl:l.length≤1000000) (d:QL w) :
  Calls prog 191 #[v,Bb (u:Int),Bb 10] w fun e w'=>∃ v',e=.returned v'∧Jc w' base v' (l ++ ZL u)∧Below base w w'∧Jl w w':=by
 have HC:=hid (QgV u hu l v base w hb b hl d);clear b d
 go_in
 go_wp2_with (go_at_call 228;refine (HC.out).mono ?_;rintro e w' ⟨v',rfl,q,j,m⟩)
 go_ret;exact ⟨_,rfl,q,j,m⟩
theorem QpS (l:List Nat):∀ (k:Bg),Jr k l=k ++ l.flatMap (fun n=>47 :: ZL n):=by
 induction l with
 | nil=>intro k;simp [Jr]
 | cons n l ih=>intro k;rw [Jr,ih,List.flatMap_cons];simp
theorem Qs8 (w:World) (s:ByteArray) (hs:s.size≤1000):Jc (Lib.bytesWorld w 5 s) w.heap.size (.slice (some ⟨w.heap.size,0,none⟩) s.size (grownCap w s.size 0 5)) (Zn s):=by
 have j:=Du w s.size 0 5
 have d:(Lib.bytesCells w 5 s).size=grownCap w s.size 0 5:=by
  have:s.data.size=s.size:=rfl;simp [Lib.bytesCells];omega
 refine ⟨w.heap.size,_,_,_,by rw [Q7],Bj _,Lib.bytesWorld_at_new w 5 s,.inr (Bj _),by rw [Q7];exact j,DJ w s.size 0 5 (by simp only [maxLen];omega),d,?_⟩
 rw [Q7];unfold Lib.bytesCells Zn;have e:s.size=(s.data.map fun b=>Value.int .u8 (b.toNat:Int)).toList.length:=by simp
 rw [DK,e,List.take_left];simp [V,b8]
theorem Qt9 (w:World) (b:BitVec 8):Bytes (w.alloc (.cells #[.int .u8 (b8 b)] 5)) (w.heap.size+1) (.slice (some ⟨w.heap.size,0,none⟩) 1 1) [b]:=by
 refine .inr (.inr ⟨w.heap.size,0,1,rfl,by simp,fun i hi=>⟨by omega,?_⟩⟩)
 obtain rfl:i=0:=by simpa using hi
 rw [Row.cell (Row.new w 5 [.int .u8 (b8 b)])];rfl
def QiI (k:Bg) (ns:List Int) (j:Nat):Bg:=k ++ (ns.take j).flatMap (fun n=>47 :: ZL n.toNat)
theorem Qjw (k:Bg) (ns:List Int) (j:Nat) (n:Int) (h:ns[j]?=some n):QiI k ns (j+1)=QiI k ns j ++ [47] ++ ZL n.toNat:=by
 unfold QiI;rw [CU,h];simp
theorem QrR (k:Bg) (ns:List Int) (j:Nat) (h:ns.length≤j):QiI k ns j=Jr k (ns.map (·.toNat)):=by
 unfold QiI;rw [QpS,Bw h,List.flatMap_map]
theorem QrS (k:Bg) (ns:List Int) (hp:∀ n∈ns,0≤n∧n≤1000000000000):∀ j,j≤ns.length→(QiI k ns j).length≤k.length+14*j:=by
 intro j
 induction j with
 | zero=>intro _;simp [QiI]
 | succ j ih =>
  intro hj;obtain ⟨n,hn⟩:∃ n,ns[j]?=some n:=⟨_,Bk (by omega)⟩
  have:=ih (by omega)
  have h2:=hp n (Bn hn);have h3:=Qag 12 n.toNat (by omega)
  rw [Qjw k ns j n hn];simp only [Bs,List.length_singleton];omega
theorem QaN (kind:ByteArray) (ns:List Int) (g n:Nat) (w:World) (hk:kind.size≤100) (hr:Row w g 3 (ns.map (Value.int .i64))) (hn:n=ns.length) (hl:n≤10) (hp:∀ n∈ns,0≤n∧n≤1000000000000) (j:QL w) :
  Calls prog 146 #[.string kind,.slice (some ⟨g,0,none⟩) n n] w fun e w'=>∃ v,e=.returned v∧Jc w' w.heap.size v (Jr (Zn kind) (ns.map (·.toNat)))∧Bd w w':=by
 have Y:=hr.lt;have T:=Qfy w kind;obtain ⟨wb,E⟩:∃ wb,Lib.bytesWorld w 5 kind=wb:=⟨_,rfl⟩;have b:=Qs8 w kind (by omega)
 have q:=Qeq w kind;rw [E] at T b q;have I:=hid q;have O:=hid b;have HR:=hid hr;have HT:=hid j;have HP:=hid hp;have HN:=hid hn;have hlk:(Zn kind).length≤100:=by rw [Q7];exact hk
 have L:=hid (QrS (Zn kind) ns hp);clear hr j b q E hp hn
 go_in
 go_wp2_with fail
 go_loopw [5,7,12] (fun o _ i wr=>∃ k:Nat,k≤n∧i=Bb (k:Int)∧Hid (Jc wr w.heap.size o (QiI (Zn kind) ns k)∧Bd w wr)) (fun _ _ i _=>n-(intOf i).toNat)
 case atStart=>exact ⟨0,by omega,rfl,hid ⟨by have:=O.out;simpa [QiI] using this,I.out⟩⟩
 case round =>
  obtain ⟨k,hk',rfl,HI⟩:=hrel;have d:=hid HI.out.2;have z:=hid HI.out.1;have D:=d.out.size;clear HI
  by_cases aA:k<n
  ·obtain ⟨x,hx⟩:∃ x,ns[k]?=some x:=⟨ns[k]'(by rw [← HN.out];exact aA),Bk _⟩
   have hlt':(k:Int)<(n:Int):=by omega
   have c0:wr.cell? ⟨g,k,none⟩=some (Bb x):=by rw [(HR.out.below d.out Y).cell,Bt,hx];rfl
   have hx0:=HP.out x (Bn hx);obtain ⟨u,rfl⟩:∃ u:Nat,x=(u:Int):=⟨x.toNat,by omega⟩
   have HX:=hid hx;have M:=hid (Qjw (Zn kind) ns k _ hx);have hln:=L.out k (by rw [← HN.out];omega)
   clear hx
   go_wp2_with (at_builtin;refine Hid.out ?_)
   refine hid ?_;refine Qdk rfl (.tmp 16) (.tmp 17) rfl w.heap.size _ _ (QiI (Zn kind) ns k) [47] rfl (z.out.below ((Bi _ _).alloc (Bj _) _)) (wr.heap.size+1) rfl (Qt9 wr 47) (by simp;omega) (by simp;omega) ?_
   intro v1 w1 C A _;have m:=hid (d.out.trans (((Bi _ _).alloc D _).trans A));have G:=hid (Qiv u (by omega) _ v1 w.heap.size w1 m.out.size C (by simp;omega) (HT.out.below m.out))
   clear C A
   go_wp2_with (go_at_call 191;refine (G.out).mono ?_;rintro e w2 ⟨v2,rfl,aB,S,-⟩)
   go_roundw
   case rel=>exact ⟨k+1,by omega,by go_num,hid ⟨by rw [M.out];exact aB,m.out.trans S⟩⟩
   case measure=>simp [intOf];omega
  ·have hge:decide ((k:Int)<(n:Int))=false:=by simp;omega
   have HE:=hid (QrR (Zn kind) ns k (by rw [← HN.out];omega))
   obtain ⟨ov,hov⟩:∃ ov,u5=ov:=⟨_,rfl⟩;go_wp2;go_ret;exact ⟨_,rfl,by rw [← HE.out];exact z.out,d.out⟩
theorem Qt7 (n:Nat):Zd n≠[]:=by
 by_cases h:n<128
 ·rw [Qa1 h];simp
 ·rw [Qc3 (by omega)];simp
theorem Qsj (l:List Int):ZF l≠[]:=by
 unfold ZF;intro h;exact Qt7 _ (List.append_eq_nil_iff.1 h).1
theorem Jc.of_own {base:Nat} (h:Qq w base v l) (hl:l≠[]):Jc w base v l:=by
 refine Jc.of_new h fun e=>?_
 obtain ⟨h1,⟨_,h0⟩ | ⟨g,cap,cur,hv,_⟩⟩:=h
 ·exact hl (CE.1 h0)
 ·rw [e] at hv;simp at hv
theorem Jc.mono {base base':Nat} (h:Jc w base v l) (hb:base'≤base):Jc w base' v l:=by
 obtain ⟨g,b,d,fz,h1,h2,h3⟩:=h;exact ⟨g,b,d,fz,h1,Bh hb h2,h3⟩
def QqX (cs:List Value) (ns:List Int) (n k:Nat):Prop:=cs.length=n*3∧∀ (i:Nat) x,i<k→ns[i]?=some x→cs[i*3]?=some (Bb 1)∧cs[i*3+1]?=some (.int .u64 x)∧cs[i*3+2]?=some (Bc)
theorem QqX.next {ns:List Int} {x:Int} (h:QqX cs ns n k) (hx:ns[k]?=some x) (hk:k<n):QqX (((cs.set (k*3) (Bb 1)).set (k*3+1) (.int .u64 x)).set (k*3+2) (Bc)) ns n (k+1):=by
 refine ⟨by simp [h.1],fun i y hi hy=>?_⟩
 have hl:=h.1
 by_cases e:i=k
 ·subst e
  obtain rfl:x=y:=by rw [hx] at hy;simpa using hy
  refine ⟨?_,?_,?_⟩
  ·rw [BZ (by omega),BZ (by omega),Dy (by omega)]
  ·rw [BZ (by omega),Dy (by simp;omega)]
  ·rw [Dy (by simp;omega)]
 ·obtain ⟨h1,h2,h3⟩:=h.2 i y (by omega) hy
  refine ⟨?_,?_,?_⟩
  ·rw [BZ (by omega),BZ (by omega),BZ (by omega)];exact h1
  ·rw [BZ (by omega),BZ (by omega),BZ (by omega)];exact h2
  ·rw [BZ (by omega),BZ (by omega),BZ (by omega)];exact h3
theorem QlP {ns:List Int} (hr:Row w g 184 cs) (h:QqX cs ns n n) (hn:n=ns.length) (hp:∀ x∈ns,0≤x):JC w w.heap.size (.slice (some ⟨g,0,none⟩) n n) (ns.map ZQ):=by
 refine .inr (.inr ⟨g,0,n,by rw [Bp,hn],by rw [Bp,hn];exact Bj _,fun i p hi=>⟨hr.lt,Bc,?_⟩⟩)
 obtain ⟨x,hx,rfl⟩:∃ x,ns[i]?=some x∧ZQ x=p:=by simpa [List.getElem?_map] using hi
 have hil:i<ns.length:=(Bm.1 hx).1;obtain ⟨h1,h2,h3⟩:=h.2 i x (by omega) hx
 have hx0:=hp x (Bn hx);rw [Bq,hr.cell,hr.cell,hr.cell];refine ⟨h1,?_,h3,.inl ⟨rfl,rfl⟩⟩;rw [h2]
 congr 2
 show x=((x.toNat:Nat):Int)
 omega
theorem Qbr (ns:List Int) (g n:Nat) (w:World) (hr:Row w g 3 (ns.map (Value.int .i64))) (hn:n=ns.length) (hl:n≤4) (hp:∀ x∈ns,0≤x∧x≤9223372036854775807) :
  Calls prog 147 #[.slice (some ⟨g,0,none⟩) n n] w fun e w'=>∃ v,e=.returned v∧Jc w' w.heap.size v (ZF ns)∧Bd w w':=by
 have aM:=hr.lt;obtain ⟨i0,aN,aQ,aR,aS⟩:=Ci Qcb;obtain ⟨w1,hrun,m,b⟩:=run_make_full (P:=prog) w w.heap.size 186 184 i0 _ 3 underlying186 aN aQ aR .i64 .i64 n (by rw [aS];omega) (by unfold maxLen;omega) (Bj _)
 have aF:=hid (show Bd w w1 from ⟨b.os,b.tape,b.output,b.size,fun k hk=>b.block k hk (by simp)⟩)
 obtain ⟨cs,aA,T⟩:∃ cs:List Value,Hid (Row w1 w.heap.size 184 cs)∧Hid (cs.length=n*3):=by
  obtain ⟨h1,⟨h2,_⟩ | ⟨g',cap,aK,h2,_,hg,_,_,aL,_⟩⟩:=m
  ·simp at h2
  ·simp at h2
   obtain ⟨rfl,rfl⟩:=h2;exact ⟨aK.toList,hid (by unfold Row;simpa using hg),hid (by simpa using aL)⟩
 have HR:=hid hr;have HP:=hid hp;have HN:=hid hn;have aB:=hid (QgE ns (by omega) (fun x hx=>by have:=hp x hx;omega)).1
 have S:=hid (show ∀ p∈ns.map ZQ,p.fits from fun p aP=>by
  obtain ⟨x,hx,rfl⟩:=BD.1 aP;have:=hp x hx;refine ⟨?_,?_⟩
  ·show x.toNat<_;omega
  ·simp [ZQ])
 clear hr m b hp hn
 go_in
 go_wp2_with fail
 go_loopw [4,5,13] (fun _ _ i wr=>∃ k:Nat,k≤n∧i=Bb (k:Int)∧Hid (Bd w wr∧∃ cs,Row wr w.heap.size 184 cs∧QqX cs ns n k)) (fun _ _ i _=>n-(intOf i).toNat)
 case atStart=>exact ⟨0,by omega,rfl,hid ⟨aF.out,cs,aA.out,T.out,fun i x hi=>absurd hi (by omega)⟩⟩
 case round =>
  obtain ⟨k,hk',rfl,HI⟩:=hrel;obtain ⟨aD,L,z,j⟩:=HI.out;have A:=hid aD;have d:=hid z;have G:=hid j;have E:=A.out.size;have hlt0:=z.lt;clear HI aD z j
  by_cases aE:k<n
  ·obtain ⟨x,hx⟩:∃ x,ns[k]?=some x:=⟨ns[k]'(by rw [← HN.out];exact aE),Bk _⟩
   have hlt':(k:Int)<(n:Int):=by omega
   have c0:wr.cell? ⟨g,k,none⟩=some (Bb x):=by rw [(HR.out.below A.out aM).cell,Bt,hx];rfl
   have hx0:=HP.out x (Bn hx);have hwx:IntKind.u64.wrap x=x:=by rw [Ek];omega
   have aO:=G.out.1;obtain ⟨q0,e0⟩:∃ q,L[k*3]?=some q:=⟨_,Bk (by omega)⟩
   obtain ⟨q1,e1⟩:∃ q,L[k*3+1]?=some q:=⟨_,Bk (by omega)⟩
   obtain ⟨q2,e2⟩:∃ q,L[k*3+2]?=some q:=⟨_,Bk (by omega)⟩
   have y0:wr.cell? ⟨w.heap.size,k*3,none⟩=some q0:=by rw [d.out.cell];exact e0
   have y1:wr.cell? ⟨w.heap.size,k*3+1,none⟩=some q1:=by rw [d.out.cell];exact e1
   have y2:wr.cell? ⟨w.heap.size,k*3+2,none⟩=some q2:=by rw [d.out.cell];exact e2
   have f0:=d.out.frozen (k*3);have f1:=d.out.frozen (k*3+1);have f2:=d.out.frozen (k*3+2);have HX:=hid hx;obtain ⟨wn,C⟩:∃ wn,((wr.setCell ⟨w.heap.size,k*3,none⟩ (Bb 1)).setCell ⟨w.heap.size,k*3+1,none⟩ (.int .u64 x)).setCell ⟨w.heap.size,k*3+2,none⟩ (Bc)=wn:=⟨_,rfl⟩;have O:=hid (show Bd w wn by rw [← C];exact ((A.out.setCell (Bj _) _).setCell (Bj _) _).setCell (Bj _) _)
   have Y:=hid (show Row wn w.heap.size 184 _ by rw [← C];exact ((d.out.set (k*3) _).set (k*3+1) _).set (k*3+2) _)
   have aH:=hid (G.out.next hx aE);have I:=hid C;clear hx e0 e1 e2 aO C;go_wp2
   first | rw [I.out] | skip
   go_roundw
   case rel=>exact ⟨k+1,by omega,by go_num,hid ⟨by first | exact O.out | (rw [I.out];exact O.out),_,by first | exact Y.out | (rw [I.out];exact Y.out),aH.out⟩⟩
   case measure=>simp [intOf];omega
  ·have hge:decide ((k:Int)<(n:Int))=false:=by simp;omega
   obtain rfl:k=n:=by omega
   have aJ:=hid (QlP d.out G.out HN.out (fun x hx=>(HP.out x hx).1))
   have aG:=hid (Qdy (ns.map ZQ) _ wr.heap.size wr aJ.out (Bj _) (by rw [Bp,← HN.out];omega) S.out)
   go_wp2_with fail
   refine aG.out.mono ?_;rintro e w2 ⟨aC,⟨x,v,hx,rfl,D⟩ | ⟨c,i,hx,_⟩⟩
   ·obtain rfl:ZF ns=x:=by rw [aB.out] at hx;simpa using hx
    have M:=hid (A.out.trans (aC.mono E));have aI:=hid (Jc.mono (Jc.of_own D (Qsj ns)) E);clear aC hx D;unfold okV;go_wp2;go_ret;exact ⟨_,rfl,aI.out.below ((Bi _ _).alloc (Bj _) _),M.out.alloc M.out.size _⟩
   ·rw [aB.out] at hx;cases hx
theorem Jz (lo n:Int) (w:World):Calls prog 14 #[Bb lo,Bb n] w fun e w'=>e=.returned (.bool (Qs lo n))∧w'=w:=by
 cases e1:decide (lo≤n)
 all_goals
  go_in
  go_wp2;go_ret;exact ⟨by simp [Qs,e1];first | done | rfl,rfl⟩
theorem Ye (s:ByteArray) (w:World):Calls prog 44 #[.string s] w fun e w'=>e=.returned (.bool (QH s))∧w'=w:=by
 have h:QH s=(decide ((1:Int)≤(s.size:Int)) && decide ((s.size:Int)≤40)):=by unfold QH;congr 1 <;> exact decide_eq_decide.2 (by omega)
 cases e1:decide ((1:Int)≤(s.size:Int))
 rotate_left
 cases e2:decide ((s.size:Int)≤40)
 all_goals
  go_in
  go_wp2;go_ret;exact ⟨by rw [h];simp [*];first | done | rfl,rfl⟩
theorem QiT (c:Cn) (w:World) :
  Calls prog 20 #[.agg #[Bb c.state,Bb c.client,Bb c.oclient,Bb c.oconn]] w fun e w'=>e=.returned (Bb (Jf c))∧Bd w w':=by
 obtain ⟨w0,b⟩:∃ w0,w.alloc (.cells #[Bb c.state,Bb c.client,Bb c.oclient,Bb c.oconn] 82)=w0:=⟨_,rfl⟩;have d:=hid (show Bd w w0 by rw [← b];exact (Bi _ _).alloc (Bj _) _)
 have k:=(show Row w0 w.heap.size 82 [Bb c.state,Bb c.client,Bb c.oclient,Bb c.oconn] by rw [← b];exact Row.new _ _ _).cell
 have HW:=hid (show Jf c=if (decide (c.state<1) || decide (3<c.state))=true then 1 else if (!Qs 0 c.client || !Qs 0 c.oclient || !Qs (-1) c.oconn)=true then 3 else 0 by grind [Jf])
 cases e0:decide (c.state<1)
 cases e1:decide (3<c.state)
 cases e2:Qs 0 c.client
 rotate_left
 cases e3:Qs 0 c.oclient
 rotate_left
 cases e4:Qs (-1) c.oconn
 all_goals
  go_in
  go_wp2_with (go_at_call 14;refine (Jz _ _ _).mono ?_;rintro e w' ⟨rfl,rfl⟩)
  go_ret;exact ⟨by rw [HW.out];simp [*];first | done | rfl,d.out⟩
theorem QiS (c:Ch) (w:World) :
  Calls prog 22 #[.agg #[Bb c.state,.bool c.ordered,Bb c.conn,Bb c.ochan,Bb c.send,Bb c.recv,Bb c.ack]] w fun e w'=>e=.returned (Bb (Q0 c))∧Bd w w':=by
 obtain ⟨w0,b⟩:∃ w0,w.alloc (.cells #[Bb c.state,.bool c.ordered,Bb c.conn,Bb c.ochan,Bb c.send,Bb c.recv,Bb c.ack] 86)=w0:=⟨_,rfl⟩;have d:=hid (show Bd w w0 by rw [← b];exact (Bi _ _).alloc (Bj _) _)
 have k:=(show Row w0 w.heap.size 86 [Bb c.state,.bool c.ordered,Bb c.conn,Bb c.ochan,Bb c.send,Bb c.recv,Bb c.ack] by rw [← b];exact Row.new _ _ _).cell
 have HW:=hid (show Q0 c=if (decide (c.state<1) || decide (4<c.state))=true then 1 else if (!Qs 0 c.conn || !Qs (-1) c.ochan || !Qs 1 c.send || !Qs 1 c.recv || !Qs 1 c.ack)=true then 3 else 0 by grind [Q0])
 cases e0:decide (c.state<1)
 cases e1:decide (4<c.state)
 cases e2:Qs 0 c.conn
 rotate_left
 cases e3:Qs (-1) c.ochan
 rotate_left
 cases e4:Qs 1 c.send
 rotate_left
 cases e5:Qs 1 c.recv
 rotate_left
 cases e6:Qs 1 c.ack
 all_goals
  go_in
  go_wp2_with (go_at_call 14;refine (Jz _ _ _).mono ?_;rintro e w' ⟨rfl,rfl⟩)
  go_ret;exact ⟨by rw [HW.out];simp [*];first | done | rfl,d.out⟩
theorem QiU (m:Mk) (od:Option Addr) (cd:Nat) (w:World) :
  Calls prog 25 #[.agg #[Bb m.chan,Bb m.seq,.slice od m.dig.length cd]] w fun e w'=>e=.returned (Bb (JT m))∧Bd w w':=by
 obtain ⟨w0,b⟩:∃ w0,w.alloc (.cells #[Bb m.chan,Bb m.seq,.slice od m.dig.length cd] 90)=w0:=⟨_,rfl⟩;have d:=hid (show Bd w w0 by rw [← b];exact (Bi _ _).alloc (Bj _) _)
 have k:=(show Row w0 w.heap.size 90 [Bb m.chan,Bb m.seq,.slice od m.dig.length cd] by rw [← b];exact Row.new _ _ _).cell
 have HW:=hid (show JT m=if (!Qs 0 m.chan || !Qs 1 m.seq)=true then 3 else if ((m.dig.length:Int) != 32)=true then 2 else 0 by grind [JT])
 cases e0:Qs 0 m.chan
 rotate_left
 cases e1:Qs 1 m.seq
 rotate_left
 cases e2:((m.dig.length:Int) != 32)
 all_goals
  go_in
  go_wp2_with (go_at_call 14;refine (Jz _ _ _).mono ?_;rintro e w' ⟨rfl,rfl⟩)
  go_ret;exact ⟨by rw [HW.out];simp [*];first | done | rfl,d.out⟩
theorem Qiq (p:Pu) (w:World) :
  Calls prog 29 #[.agg #[.string p.owner,.string p.denom,.int .u64 (p.amount:Int)]] w fun e w'=>e=.returned (Bb (Qct p))∧Bd w w':=by
 obtain ⟨w0,b⟩:∃ w0,w.alloc (.cells #[.string p.owner,.string p.denom,.int .u64 (p.amount:Int)] 70)=w0:=⟨_,rfl⟩;have d:=hid (show Bd w w0 by rw [← b];exact (Bi _ _).alloc (Bj _) _)
 have k:=(show Row w0 w.heap.size 70 [.string p.owner,.string p.denom,.int .u64 (p.amount:Int)] by rw [← b];exact Row.new _ _ _).cell
 have HW:=hid (show Qct p=if (!QH p.owner || !QH p.denom)=true then 4 else if ((p.amount:Int) == 0)=true then 3 else 0 by grind [Qct])
 cases e0:QH p.owner
 rotate_left
 cases e1:QH p.denom
 rotate_left
 cases e2:((p.amount:Int) == 0)
 all_goals
  go_in
  go_wp2_with (go_at_call 44;refine (Ye _ _).mono ?_;rintro e w' ⟨rfl,rfl⟩)
  go_ret;exact ⟨by rw [HW.out];simp [*];first | done | rfl,d.out⟩
def Qba (l:Bg):ByteArray:=strOfNums (l.map b8)
def QjT (t:Tr):List Pc:=[⟨2,0,Zn t.denom⟩,⟨1,t.amount,[]⟩,⟨2,0,Zn t.sender⟩,⟨2,0,Zn t.reader⟩]
def QG (t:Tr):Bg:=match YA (QjT t) with
 | .ok x=>x
 | .error _=>[]
def Tr.zero:Tr:=⟨⟨#[]⟩,0,⟨#[]⟩,⟨#[]⟩⟩
def Qdw:List Pc→Except Int Tr
 | [p0,p1,p2,p3]=>if p0.k=2∧p1.k=1∧p2.k=2∧p3.k=2 then (if (QH (Qba p0.b) && (QH (Qba p2.b) && QH (Qba p3.b)))=false then .error 4 else if p1.n=0 then .error 3 else .ok ⟨Qba p0.b,p1.n,Qba p2.b,Qba p3.b⟩) else .error 2
 | _=>.error 2
def Qci (b:Bg):Except Int Tr:=match ZG b with
 | .ok m=>Qdw m
 | .error c=>.error c
def Jj (b:Bg):Int:=match Qci b with
 | .ok _=>0
 | .error c=>c
def QS (b:Bg):Tr:=match Qci b with
 | .ok t=>t
 | .error _=>Tr.zero
theorem QsD {b:Bg} {c:Int} (h:ZG b=.error c):c≠0:=by
 unfold ZG at h
 split at h
 ·injection h;omega
 ·split at h
  ·injection h;omega
  ·split at h
   ·injection h;omega
   ·split at h
    ·injection h;omega
    ·cases h
theorem Qs3: Qw 184 3:=⟨⟨_,underlying184,rfl⟩,by kernel_rfl⟩
theorem Qpl {b f c:Nat} (h:Bytes w N (.slice (some ⟨b,f,none⟩) n c) l) (e:b≠g) (O:JH g w w'):Bytes w' N (.slice (some ⟨b,f,none⟩) n c) l:=by
 rcases h with ⟨h,-⟩ | ⟨a,d,h,rfl⟩ | ⟨b',j,d,h,hc,hh⟩
 ·injection h with h;cases h
 ·exact .inr (.inl ⟨a,d,h,rfl⟩)
 ·injection h with h1 h2 h3
  obtain ⟨rfl,rfl⟩:b=b'∧f=j:=by simpa using h1
  subst h3;refine .inr (.inr ⟨b,f,c,by rw [h2],hc,fun i hi=>⟨(hh i hi).1,?_⟩⟩)
  rw [← (hh i hi).2];simp only [World.cell?];rw [O.same b e]
theorem Qs7 (s:ByteArray) (w:World):Calls prog 122 #[.string s] w fun e w'=>Bd w w'∧∃ o n c,e=.returned (.agg #[Bb 2,.int .u64 0,.slice o n c])∧Bytes w' w'.heap.size (.slice o n c) (Zn s):=by
 have HC:=hid Qfy;have HT:=hid Qif;have m:=hid Qeq
 go_in
 go_upto_region 1 with fail
 refine JO ?_;intro w0 F hs;have q:=HC.out w0 s;generalize A:Lib.bytesWorld w0 5 s=w1 at *;have d:=m.out w0 s;have j:=HT.out w0 s;rw [A] at d j;have F1:=F.go d;have D:=hid j;have HB1:=hid d.size;have E:=hid (show w.heap.size<w0.heap.size from hs);generalize grownCap w0 s.size 0 5=z at *;generalize s.size=sn at *;clear A d j F HC HT m hs;obtain ⟨c0,c1,c2,z0,z1,z2⟩:=F1.r0.three;have F2:=((F1.set1 0 0 (Bb 2) rfl).set1 0 1 (.int .u64 0) rfl).set1 0 2 (.slice (some ⟨w0.heap.size,0,none⟩) sn z) rfl;have C:=hid F2;clear F2 F1;go_wp2;have F2:=C.out;refine Qfa results122 rfl F2.r0 Qs3 rfl ⟨F2.b,_,_,_,rfl,?_⟩;have O:=(((JH.refl w.heap.size w1).cell 0 (Bb 2)).cell 1 (.int .u64 0)).cell 2 (.slice (some ⟨w0.heap.size,0,none⟩) sn z);exact (Qpl D.out (Nat.ne_of_gt E.out) O).mono (Ds O.size.symm)
theorem Qg0 (t:Tr) (w:World) (ht:t.fits):Calls prog 91 #[.agg #[.string t.denom,.int .u64 (t.amount:Int),.string t.sender,.string t.reader]] w fun e w'=>Bd w w'∧∃ v,e=.returned v∧Bytes w' w'.heap.size v (QG t):=by
 have HT:=hid (fun s W=>(Qs7 s W).mono (R':=fun e W'=>∃ v,e=.returned v∧Bd W W'∧PcB (Zn s) v W') (by rintro e W' ⟨hb,o,n,c,rfl,h⟩;exact ⟨_,rfl,hb,o,n,c,rfl,h⟩))
 have D:=hid (show ∀ v W,JC W W.heap.size v (QjT t)→Calls prog 121 #[v] W fun e W'=>∃ x,e=.returned x∧Bd W W'∧WrB (QG t) x W' from fun v W hp=>by
  refine (Qdy (QjT t) v W.heap.size W hp (Bj _) (by simp [QjT]) (by
   intro p hp;obtain ⟨h1,h2,h3,h4⟩:=ht;simp [QjT] at hp
   rcases hp with rfl | rfl | rfl | rfl
   ·exact ⟨by show 0<18446744073709551616;decide,by rw [Q7];exact h1⟩
   ·exact ⟨h2,by simp⟩
   ·exact ⟨by show 0<18446744073709551616;decide,by rw [Q7];exact h3⟩
   ·exact ⟨by show 0<18446744073709551616;decide,by rw [Q7];exact h4⟩)).mono ?_
  rintro e W' ⟨hb,⟨x,y,hx,rfl,ho⟩ | ⟨c,i,hx,rfl⟩⟩
  ·obtain ⟨o,k,rfl,-⟩:=ho.shape
   exact ⟨_,rfl,hb,o,_,k,0,0,rfl,by unfold QG;rw [hx];exact ho.bytes⟩
  ·exact ⟨_,rfl,hb,none,0,0,c,(i:Int),rfl,by unfold QG;rw [hx];exact .inl ⟨rfl,rfl⟩⟩)
 obtain ⟨d,a,s,r⟩:=t
 go_in
 go_upto_region 1 with fail
 refine JO ?_;intro w0 F hs;have HF:=hid F;clear F hs;apply JR 19 (by kernel_rfl) (fun W hb=>(HF.out.go hb).r0.k4) (by kernel_rfl)
 ·intro σ;simp [Qj];exact rfl
 iterate 2 (apply RK.val rfl;· intro σ W hb hc ⟨hd,hu⟩;simp at hd hu;go_simp;exact rfl)
 apply RK.callG (PcB (Zn d)) (PcB.stay _) rfl
 ·intro σ W hb hc ⟨hd,hu⟩;simp at hd hu;exact ⟨_,_,by go_simp <;> first | exact rfl | exact ⟨rfl,rfl⟩,HT.out d W⟩
 iterate 5 (apply RK.val rfl;· intro σ W hb hc ⟨hd,hu⟩;simp at hd hu;go_simp;exact rfl)
 apply RK.callG (PcB (Zn s)) (PcB.stay _) rfl
 ·intro σ W hb hc ⟨hd,hu⟩;simp at hd hu;exact ⟨_,_,by go_simp <;> first | exact rfl | exact ⟨rfl,rfl⟩,HT.out s W⟩
 iterate 2 (apply RK.val rfl;· intro σ W hb hc ⟨hd,hu⟩;simp at hd hu;go_simp;exact rfl)
 apply RK.callG (PcB (Zn r)) (PcB.stay _) rfl
 ·intro σ W hb hc ⟨hd,hu⟩;simp at hd hu;exact ⟨_,_,by go_simp <;> first | exact rfl | exact ⟨rfl,rfl⟩,HT.out r W⟩
 apply RK.new (Qj1 (QjT ⟨d,a,s,r⟩)) (Qj1.stay _) rfl
 ·intro σ W hb hc ⟨hd,hu⟩;simp at hd hu
  obtain ⟨⟨o1,n1,c1,e1,h1⟩,e2,⟨o3,n3,c3,e3,h3⟩,⟨o4,n4,c4,e4,h4⟩⟩:=hd
  have HH:=hid (Qel W 184 [(⟨2,0,Zn d⟩,.slice o1 n1 c1),(⟨1,a,[]⟩,Bc),(⟨2,0,Zn s⟩,.slice o3 n3 c3),(⟨2,0,Zn r⟩,.slice o4 n4 c4)] (by
   intro q hq;simp at hq
   rcases hq with rfl | rfl | rfl | rfl
   ·exact h1
   ·exact .inl ⟨rfl,rfl⟩
   ·exact h3
   ·exact h4))
  clear h1 h3 h4;exact ⟨_,_,by go_simp <;> first | exact rfl | exact ⟨rfl,rfl⟩,(Bi _ _).alloc (Bj _) _,HH.out⟩
 apply RK.callG (WrB (QG ⟨d,a,s,r⟩)) (WrB.stay _) rfl
 ·intro σ W hb hc ⟨hd,hu⟩;simp at hd hu
  have HH:=hid (D.out (σ 12) W hd.1);clear hd;exact ⟨_,_,by go_simp <;> first | exact rfl | exact ⟨rfl,rfl⟩,HH.out⟩
 apply RK.new (WrB (QG ⟨d,a,s,r⟩)) (WrB.stay _) rfl
 ·intro σ W hb hc ⟨hd,hu⟩;simp at hd hu
  have HH:=hid hd;clear hd;exact ⟨σ 13,W,by go_simp,Bi _ _,HH.out⟩
 apply RK.new (ByB (QG ⟨d,a,s,r⟩)) (ByB.stay _) rfl
 ·intro σ W hb hc ⟨hd,hu⟩;simp at hd hu
  obtain ⟨o,n,k,c,i,e,h⟩:=hd;have HH:=hid h;clear h;exact ⟨_,W,by go_simp <;> exact rfl,Bi _ _,o,n,k,rfl,HH.out⟩
 apply RK.new FaB FaB.stay rfl
 ·intro σ W hb hc ⟨hd,hu⟩;simp at hd hu
  obtain ⟨o,n,k,c,i,e,h⟩:=hd;clear h;exact ⟨_,W,by go_simp <;> exact rfl,Bi _ _,c,i,rfl⟩
 apply RK.new (Qk4 w.heap.size) (Qk4.stay _) rfl
 ·intro σ W hb hc ⟨hd,hu⟩;simp at hd hu
  have L:=(HF.out.go hb).b.size;have HH:=hid (Row.new W 180 [Bb 0,Bb 0]);exact ⟨_,_,by go_simp <;> first | exact rfl | exact ⟨rfl,rfl⟩,(Bi _ _).alloc (Bj _) _,W.heap.size,rfl,L,HH.out⟩
 apply RK.new (ByB (QG ⟨d,a,s,r⟩)) (ByB.stay _) rfl
 ·intro σ W hb hc ⟨hd,hu⟩;simp at hd hu
  obtain ⟨o,n,k,e,h⟩:=hd.1;have HH:=hid h;clear h;exact ⟨_,W,by go_simp <;> exact rfl,Bi _ _,o,n,k,rfl,HH.out⟩
 intro σ W hb _;simp only [Jm,Bv,By,Nat.reduceAdd];intro hF;obtain ⟨-,-,-,-,-,-,-,-,-,-,-,-,-,-,-,-,⟨c,i,E⟩,⟨k,G,hk,j⟩,⟨o,n,cc,I,m⟩,-⟩:=hF;have z:=hid (HF.out.go hb).b;have C:=hid j;have A:=hid m;obtain ⟨z0,z1,z2,z3⟩:=j.two;clear hb j m;simp only [BU,BS,E,G,I];go_wp2;go_ret;have O:=((JH.refl k W).cell 0 (Bb c)).cell 1 (Bb i);exact ⟨O.down z.out hk,_,rfl,(A.out.only C.out rfl O.same).mono (Ds O.size.symm)⟩
theorem Z0: Qw 49 4:=⟨⟨_,underlying49,rfl⟩,by kernel_rfl⟩
def QbC (m:List Pc) (ks:List Int):Bool:=decide (m.map (·.k)=ks)
theorem QrU (p:Pc) (k:Int) (vb:Value) (w:World):Calls prog 195 #[.agg #[Bb p.k,.int .u64 (p.n:Int),vb],Bb k] w fun e w'=>e=.returned (.bool (p.k == k))∧Bd w w':=by
 go_in
 go_upto_region 1 with fail
 refine JO ?_;intro w0 F hs;obtain ⟨k0,k1,k2⟩:=F.r0.k3;have HB:=hid F.b;clear F hs;go_wp2;go_ret;exact ⟨rfl,HB.out⟩
theorem QtW (m:List Pc) (ks:List Int) (sv:Value) (N g n:Nat) (w:World) (lb:Array Value) (aB:lb=#[]) (hN:N≤w.heap.size) (hm:JC w N sv m) (hr:Row w g 3 (ks.map (Value.int .i64))) (hn:ks.length=n) (hlen:m.length≤1000) :
  Calls prog 194 #[sv,.slice (some ⟨g,0,none⟩) n n,.func (.func 195) #[] lb] w fun e w'=>e=.returned (.bool (QbC m ks))∧Bd w w':=by
 subst aB;obtain ⟨oa,ca,rfl,-⟩:=hm.shape;have HM:=hid hm;have aA:=hr.lt;have HR:=hid hr;have HK:=hid QrU;have z:=hid (show QbC m ks=decide (m.map (·.k)=ks) from rfl);clear hm hr;generalize hl:m.length=l at *;have A:=hid hl;have HN:=hid hn;clear hl hn
 by_cases O:l=n
 ·subst O
  go_in
  go_wp2_with fail
  go_loopw [17] (fun D wr=>∃ k:Nat,k≤l∧D=Bb k∧Hid (Bd w wr)∧Hid ((m.map (·.k)).take k=ks.take k)) (fun D _=>l-(intOf D).toNat)
  case atStart=>exact ⟨0,BH _,rfl,Bi _ _,rfl⟩
  case round =>
   obtain ⟨k,hk,rfl,HW,HT⟩:=hrel
   by_cases M:k<l
   ·obtain ⟨p,hp⟩:∃ p,m[k]?=some p:=⟨m[k]'(by rw [A.out];exact M),Bk _⟩
    obtain ⟨q,hq⟩:∃ q,ks[k]?=some q:=⟨ks[k]'(by rw [HN.out];exact M),Bk _⟩
    obtain ⟨b,f,rfl,I⟩:=HM.out.some (by omega)
    obtain ⟨hbN,vb,c0,c1,c2,T⟩:=I k p hp;obtain ⟨ov,cv,rfl,-⟩:=T.shape;clear T;generalize p.b.length=pl at *;replace c0:=(HW.out.cell (p:=⟨b,f+k*3,none⟩) (by show b<_;omega)).trans c0
    replace c1:=(HW.out.cell (p:=⟨b,f+k*3+1,none⟩) (by show b<_;omega)).trans c1
    replace c2:=(HW.out.cell (p:=⟨b,f+k*3+2,none⟩) (by show b<_;omega)).trans c2
    have d0:wr.cell? ⟨g,k,none⟩=some (Bb q):=by rw [HW.out.cell (p:=⟨g,k,none⟩) aA,HR.out.cell,Bt,hq];rfl
    have hlt':(k:Int)<(l:Int):=by omega
    have aC:=HW.out.size;have L:g<wr.heap.size:=by omega
    have d:=hid (And.intro hp hq);clear hp hq I
    go_upto_region 6 with fail
    refine QtI ?_;intro w1 S C;have Y:=hid (HW.out.trans (C.mono aC));obtain ⟨k0,k1,k2⟩:=S.k3;replace d0:=(C.cell (p:=⟨g,k,none⟩) L).trans d0;clear c0 c1 c2 S C L
    go_wp2_with fail
    refine (HK.out p q _ w1).mono ?_;rintro e w2 ⟨rfl,G⟩;have E:=hgo Y G;clear G k0 k1 k2 d0
    by_cases j:p.k=q
    ·have e1:(p.k == q)=true:=by simpa using j
     rw [e1]
     go_wp2_with fail
     refine ⟨⟨k+1,by omega,by go_num,E.out,?_⟩,by simp [intOf];omega⟩
     rw [CU,CU,HT.out,Bt,d.out.1,d.out.2,Option.map_some,j];exact hid rfl
    ·have e1:(p.k == q)=false:=by simpa using j
     rw [e1];go_wp2;go_ret;refine ⟨?_,E.out⟩;rw [z.out,BC fun h=>j ?_]
     ·rfl
     ·have:=Bl (fun x=>x[k]?) h
      simp only [Bt,d.out.1,d.out.2,Option.map_some] at this;exact Bu this
   ·obtain rfl:k=l:=by omega
    have hlt':decide ((k:Int)<(k:Int))=false:=by simp
    go_wp2;go_ret;refine ⟨?_,HW.out⟩;have:=HT.out;rw [Bw (by rw [Bp,A.out];exact Bj _),Bw (by rw [HN.out];exact Bj _)] at this
    rw [z.out,BB this];rfl
 ·have e1:((l:Int) != (n:Int))=true:=by simp;omega
  have HF:=hid (show QbC m ks=false by rw [z.out,BC fun h=>O (by rw [← A.out,← HN.out,← h,Bp])])
  go_in
  go_wp2;go_ret;exact ⟨by rw [HF.out];rfl,Bi _ _⟩
theorem Qpf (m:List Pc) (ks:List Int) (sv:Value) (N g n:Nat) (w:World) (hN:N≤w.heap.size) (hm:JC w N sv m) (hr:Row w g 3 (ks.map (Value.int .i64))) (hn:ks.length=n) (b:m.length≤1000) :
  Calls prog 150 #[sv,.slice (some ⟨g,0,none⟩) n n] w fun e w'=>e=.returned (.bool (QbC m ks))∧Bd w w':=by
 obtain ⟨oa,ca,rfl,-⟩:=hm.shape;have HC:=hid (QtW m ks _ N g n w #[] rfl hN hm hr hn b);clear hm hr hn b;generalize m.length=l at *
 go_in
 go_wp2_with fail
 refine HC.out.mono ?_;rintro e w1 ⟨rfl,hb⟩;have HB:=hid hb;clear hb;go_wp2;go_ret;exact ⟨rfl,HB.out⟩
end Go.Proofs.YtnedafiokmjkkaaGreatDoor
