/- A transfer as bytes. -/
import Derived.Test.YtnedafiokmjkkaaGreatDoorsaStApp
import Derived.Test.YtnedafiokmjkkaaGreatDoorsaPkMath
namespace Go.Proofs.YtnedafiokmjkkaaGreatDoor
open Tryz
set_option maxRecDepth 1000000
set_option maxHeartbeats 8000000
open Go.RowKit
variable {W w w' w1:World} {N g k n:Nat} {v:Value} {d:ByteArray} {P:Program} {Q:Exit→Act→World→Prop} {a:Act} {t:TypeId} {cs:List Value} {oa:Option Addr} {l:List (BitVec 8)}
structure Tr where
 denom:ByteArray
 amount:Nat
 sender:ByteArray
 reader:ByteArray
def Tr.fits (t:Tr):Prop:=t.denom.size≤140737488351232∧t.amount<18446744073709551616∧t.sender.size≤140737488351232∧t.reader.size≤140737488351232
structure Ms where
 kind:Int
 chain:ByteArray
 trust:Int
 known:Kn
 client:Int
 upd:Up
 sec:Up
 other:Int
 oend:Int
 fin:Int
 ordered:Bool
 sh:Sh
 tr:Tr
 tmo:Int
 next:Int
 pk:Pk
 ack:Bg
def Ms.fits (m:Ms):Prop:=m.chain.size≤140737488351232∧m.known.fits∧m.upd.fits∧m.sec.fits∧m.sh.fits∧m.tr.fits∧m.pk.fits∧m.ack.length≤140737488351232
def msC (m:Ms) (o:Nat→Option Addr) (c:Nat→Nat):List Value:=[Bb m.kind,.string m.chain,Bb m.trust,Bb m.known.height,Bb m.known.time,.slice (o 0) m.known.root.length (c 0),.slice (o 1) m.known.next.length (c 1),Bb m.client,Bb m.upd.frm,.string m.upd.sg.hd.chain,Bb m.upd.sg.hd.height,Bb m.upd.sg.hd.time,.slice (o 2) m.upd.sg.hd.root.length (c 2),.slice (o 3) m.upd.sg.hd.vals.length (c 3),.slice (o 4) m.upd.sg.hd.next.length (c 4),.slice (o 5) m.upd.sg.vals.length (c 5),.slice (o 6) m.upd.sg.votes.length (c 6),.slice (o 7) m.upd.trusted.length (c 7),Bb m.sec.frm,.string m.sec.sg.hd.chain,Bb m.sec.sg.hd.height,Bb m.sec.sg.hd.time,.slice (o 8) m.sec.sg.hd.root.length (c 8),.slice (o 9) m.sec.sg.hd.vals.length (c 9),.slice (o 10) m.sec.sg.hd.next.length (c 10),.slice (o 11) m.sec.sg.vals.length (c 11),.slice (o 12) m.sec.sg.votes.length (c 12),.slice (o 13) m.sec.trusted.length (c 13),Bb m.other,Bb m.oend,Bb m.fin,.bool m.ordered,Bb m.sh.height,Bb m.sh.prf.index,Bb m.sh.prf.size,.slice (o 14) m.sh.prf.key.length (c 14),.slice (o 15) m.sh.prf.val.length (c 15),.slice (o 16) m.sh.prf.path.length (c 16),.bool m.sh.gap.hasL,.bool m.sh.gap.hasR,Bb m.sh.gap.left.index,Bb m.sh.gap.left.size,.slice (o 17) m.sh.gap.left.key.length (c 17),.slice (o 18) m.sh.gap.left.val.length (c 18),.slice (o 19) m.sh.gap.left.path.length (c 19),Bb m.sh.gap.right.index,Bb m.sh.gap.right.size,.slice (o 20) m.sh.gap.right.key.length (c 20),.slice (o 21) m.sh.gap.right.val.length (c 21),.slice (o 22) m.sh.gap.right.path.length (c 22),.string m.tr.denom,.int .u64 (m.tr.amount:Int),.string m.tr.sender,.string m.tr.reader,Bb m.tmo,Bb m.next,Bb m.pk.src,Bb m.pk.dst,Bb m.pk.seq,.slice (o 23) m.pk.data.length (c 23),Bb m.pk.tmo,.slice (o 24) m.ack.length (c 24)]
structure MsM (w:World) (N:Nat) (m:Ms) (o:Nat→Option Addr) (c:Nat→Nat):Prop where
 known:KnV w N (.agg #[Bb m.known.height,Bb m.known.time,.slice (o 0) m.known.root.length (c 0),.slice (o 1) m.known.next.length (c 1)]) m.known
 upd:UpV w N (.agg #[Bb m.upd.frm,.string m.upd.sg.hd.chain,Bb m.upd.sg.hd.height,Bb m.upd.sg.hd.time,.slice (o 2) m.upd.sg.hd.root.length (c 2),.slice (o 3) m.upd.sg.hd.vals.length (c 3),.slice (o 4) m.upd.sg.hd.next.length (c 4),.slice (o 5) m.upd.sg.vals.length (c 5),.slice (o 6) m.upd.sg.votes.length (c 6),.slice (o 7) m.upd.trusted.length (c 7)]) m.upd
 sec:UpV w N (.agg #[Bb m.sec.frm,.string m.sec.sg.hd.chain,Bb m.sec.sg.hd.height,Bb m.sec.sg.hd.time,.slice (o 8) m.sec.sg.hd.root.length (c 8),.slice (o 9) m.sec.sg.hd.vals.length (c 9),.slice (o 10) m.sec.sg.hd.next.length (c 10),.slice (o 11) m.sec.sg.vals.length (c 11),.slice (o 12) m.sec.sg.votes.length (c 12),.slice (o 13) m.sec.trusted.length (c 13)]) m.sec
 sh:ShV w N (.agg #[Bb m.sh.height,Bb m.sh.prf.index,Bb m.sh.prf.size,.slice (o 14) m.sh.prf.key.length (c 14),.slice (o 15) m.sh.prf.val.length (c 15),.slice (o 16) m.sh.prf.path.length (c 16),.bool m.sh.gap.hasL,.bool m.sh.gap.hasR,Bb m.sh.gap.left.index,Bb m.sh.gap.left.size,.slice (o 17) m.sh.gap.left.key.length (c 17),.slice (o 18) m.sh.gap.left.val.length (c 18),.slice (o 19) m.sh.gap.left.path.length (c 19),Bb m.sh.gap.right.index,Bb m.sh.gap.right.size,.slice (o 20) m.sh.gap.right.key.length (c 20),.slice (o 21) m.sh.gap.right.val.length (c 21),.slice (o 22) m.sh.gap.right.path.length (c 22)]) m.sh
 pk:PkV w N (.agg #[Bb m.pk.src,Bb m.pk.dst,Bb m.pk.seq,.slice (o 23) m.pk.data.length (c 23),Bb m.pk.tmo]) m.pk
 ack:Bytes w N (.slice (o 24) m.ack.length (c 24)) m.ack
def MsV (w:World) (N:Nat) (v:Value) (m:Ms):Prop:=∃ o c,v=.agg (msC m o c).toArray∧MsM w N m o c
theorem MsM.below {m:Ms} {o:Nat→Option Addr} {c:Nat→Nat} (h:MsM w N m o c) (hg:Below N w w'):MsM w' N m o c:=⟨h.known.below hg,h.upd.below hg,h.sec.below hg,h.sh.below hg,h.pk.below hg,h.ack.below hg⟩
theorem MsM.mono {m:Ms} {o:Nat→Option Addr} {c:Nat→Nat} (h:MsM w N m o c) (hN:N≤g):MsM w g m o c:=⟨h.known.mono hN,h.upd.mono hN,h.sec.mono hN,h.sh.mono hN,h.pk.mono hN,h.ack.mono hN⟩
theorem MsV.below {m:Ms} (h:MsV w N v m) (hg:Below N w w'):MsV w' N v m:=by
 obtain ⟨o,c,e,h⟩:=h;exact ⟨o,c,e,h.below hg⟩
theorem MsV.mono {m:Ms} (h:MsV w N v m) (hN:N≤g):MsV w g v m:=by
 obtain ⟨o,c,e,h⟩:=h;exact ⟨o,c,e,h.mono hN⟩
theorem Qjf: ∀ (a:List UInt8),Op.bytesLess a a=false
 | []=>rfl
 | x :: a=>by unfold Op.bytesLess;rw [Qjf a];simp
theorem Qf3: ∀ (a b c:List UInt8),Op.bytesLess a b=true→Op.bytesLess b c=true→Op.bytesLess a c=true
 | a,[],_,h,_=>by cases a <;> simp [Op.bytesLess] at h
 | _,_ :: _,[],_,h=>by simp [Op.bytesLess] at h
 | [],_ :: _,_ :: _,_,_=>rfl
 | x :: a,y :: b,z :: c,h1,h2=>by
  unfold Op.bytesLess at *;simp only [DV,BX,BR,beq_iff_eq] at *
  rcases h1 with h1 | ⟨rfl,h1⟩
  ·rcases h2 with h2 | ⟨rfl,h2⟩
   ·exact .inl (UInt8.lt_trans h1 h2)
   ·exact .inl h1
  ·rcases h2 with h2 | ⟨rfl,h2⟩
   ·exact .inl h2
   ·exact .inr ⟨rfl,Qf3 a b c h1 h2⟩
theorem Qjg:∀ (a b:List UInt8),Op.bytesLess a b=true∨a=b∨Op.bytesLess b a=true
 | [],[]=>.inr (.inl rfl)
 | [],_ :: _=>.inl rfl
 | _ :: _,[]=>.inr (.inr rfl)
 | x :: a,y :: b=>by
  unfold Op.bytesLess;simp only [DV,BX,BR,beq_iff_eq]
  rcases Eg x.toNat y.toNat with h | h | h
  ·exact .inl (.inl h)
  ·have:x=y:=UInt8.toNat_inj.1 h
   subst this
   rcases Qjg a b with h | rfl | h
   ·exact .inl (.inr ⟨rfl,h⟩)
   ·exact .inr (.inl rfl)
   ·exact .inr (.inr (.inr ⟨rfl,h⟩))
  ·exact .inr (.inr (.inl h))
theorem toList_inj {a b:ByteArray} (h:a.toList=b.toList):a=b:=by
 rw [ByteArray.toList_eq,ByteArray.toList_eq] at h;exact ByteArray.ext (Array.toList_inj.1 h)
theorem Yw (a b:Pu) (h1:a.owner=b.owner) (h2:a.denom=b.denom):QO a b=false:=by grind [QO,QjG,Qjf]
theorem Yx {a b c:Pu} (h1:QO a b=true) (h2:QO b c=true):QO a c=true:=by grind [QO,QjG,Qf3]
theorem QnP (a b:Pu):QO a b=true∨(a.owner=b.owner∧a.denom=b.denom)∨QO b a=true:=by grind [QO,QjG,Qjg,toList_inj]
theorem QoW {a b:Pu} (h:QO a b=true):¬ (a.owner=b.owner∧a.denom=b.denom):=by grind [Yw]
theorem Qsg {a b:Pu} (h:QO a b=true):QO b a=false:=by grind [QO,QoW,Yx]
def Qbj (l:List Pu):Prop:=l.Pairwise fun a b=>QO a b=true
def isU (o d:ByteArray) (p:Pu):Bool:=decide (p.owner=o∧p.denom=d)
def Q7:List Pu→ByteArray→ByteArray→Nat
 | [],_,_=>0
 | p :: l,o,d=>(if isU o d p=true then p.amount else 0)+Q7 l o d
def Q8:List Pu→ByteArray→Nat
 | [],_=>0
 | p :: l,d=>(if p.denom=d then p.amount else 0)+Q8 l d
def Zr (l:List Pu) (o d:ByteArray):List Pu:=l.filter fun p=>QO p ⟨o,d,0⟩
def Yt (l:List Pu) (o d:ByteArray):List Pu:=l.filter fun p=>QO ⟨o,d,0⟩ p
def Qc8 (o d:ByteArray) (n:Nat):List Pu:=if n=0 then [] else [⟨o,d,n⟩]
def QcL (l:List Pu) (o d:ByteArray) (n:Nat):List Pu:=Zr l o d ++ (Qc8 o d n ++ Yt l o d)
theorem QcS: ∀ (a b:List Pu) (o d:ByteArray),Q7 (a ++ b) o d=Q7 a o d+Q7 b o d
 | [],b,o,d=>by simp [Q7]
 | p :: a,b,o,d=>by simp only [By,Q7,QcS a b];omega
theorem Qb0: ∀ (a b:List Pu) (d:ByteArray),Q8 (a ++ b) d=Q8 a d+Q8 b d
 | [],b,d=>by simp [Q8]
 | p :: a,b,d=>by simp only [By,Q8,Qb0 a b];omega
theorem Qb2:∀ (l:List Pu) (o d:ByteArray),Q7 l o d≤Q8 l d
 | [],_,_=>Bj _
 | p :: l,o,d=>by
  have:=Qb2 l o d;simp only [Q7,Q8,isU,BR]
  split
  ·simp_all
  ·omega
theorem Qds:∀ (l:List Pu) (o d:ByteArray),(∀ p∈l,¬ (p.owner=o∧p.denom=d))→Q7 l o d=0
 | [],_,_,_=>rfl
 | p :: l,o,d,h=>by
  have h1:=h p (.head _);simp only [Q7,isU,BR];rw [if_neg h1,Qds l o d fun q hq=>h q (.tail _ hq)]
theorem YX:∀ (l:List Pu) (o d:ByteArray),Qbj l→l=Zr l o d ++ (l.filter (isU o d) ++ Yt l o d)∧((l.filter (isU o d)=[])∨∃ n,l.filter (isU o d)=[⟨o,d,n⟩]∧⟨o,d,n⟩∈l)
 | [],_,_,_=>⟨rfl,.inl rfl⟩
 | p :: l,o,d,h=>by
  obtain ⟨h1,h2⟩:=CL.1 h;obtain ⟨g1,g2⟩:=YX l o d h2;have b:QO ⟨o,d,0⟩ p=true→(∀ q∈l,QO ⟨o,d,0⟩ q=true):=fun hp q hq=>Yx hp (h1 q hq)
  rcases QnP p ⟨o,d,0⟩ with hp | ⟨e1,e2⟩ | hp
  ·have n1:isU o d p=false:=by unfold isU;rw [decide_eq_false_iff_not];exact QoW hp
   have n2:QO ⟨o,d,0⟩ p=false:=Qsg hp;unfold Zr Yt;simp only [D7,hp,n1,n2,if_true,DS,if_false];refine ⟨by rw [By];exact Bl _ g1,?_⟩
   rcases g2 with g2 | ⟨n,g2,g3⟩
   ·exact .inl g2
   ·exact .inr ⟨n,g2,.tail _ g3⟩
  ·have n1:isU o d p=true:=by unfold isU;rw [BR];exact ⟨e1,e2⟩
   have n2:QO p ⟨o,d,0⟩=false:=Yw _ _ e1 e2;have n3:QO ⟨o,d,0⟩ p=false:=Yw _ _ e1.symm e2.symm
   have hl:∀ q∈l,QO ⟨o,d,0⟩ q=true:=fun q hq=>by
    have:=h1 q hq;unfold QO at *;simp only at e1 e2 ⊢;rw [← e1,← e2];exact this
   have e3:l.filter (fun q=>QO q ⟨o,d,0⟩)=[]:=Cp.2 fun q hq hh=>by
    have:=Yx (hl q hq) hh;rw [Yw _ _ rfl rfl] at this
    cases this
   have e4:l.filter (isU o d)=[]:=Cp.2 fun q hq hh=>by
    unfold isU at hh;rw [BR] at hh;have:=hl q hq;rw [Yw _ _ hh.1.symm hh.2.symm] at this
    cases this
   have e5:l.filter (fun q=>QO ⟨o,d,0⟩ q)=l:=CT.2 hl
   unfold Zr Yt;simp only [D7,n1,n2,n3,if_true,DS,if_false];rw [e3,e4,e5];obtain ⟨po,pd,pn⟩:=p;obtain rfl:po=o:=e1;obtain rfl:pd=d:=e2;exact ⟨rfl,.inr ⟨pn,rfl,.head _⟩⟩
  ·have hl:=b hp
   have e3:(p :: l).filter (fun q=>QO q ⟨o,d,0⟩)=[]:=Cp.2 fun q hq hh=>by
    have:QO ⟨o,d,0⟩ q=true:=by
     rcases Bo.1 hq with rfl | hq
     ·exact hp
     ·exact hl q hq
    have:=Yx this hh;rw [Yw _ _ rfl rfl] at this
    cases this
   have e4:(p :: l).filter (isU o d)=[]:=Cp.2 fun q hq hh=>by
    have hq':QO ⟨o,d,0⟩ q=true:=by
     rcases Bo.1 hq with rfl | hq
     ·exact hp
     ·exact hl q hq
    unfold isU at hh;rw [BR] at hh;rw [Yw _ _ hh.1.symm hh.2.symm] at hq'
    cases hq'
   have e5:(p :: l).filter (fun q=>QO ⟨o,d,0⟩ q)=p :: l:=CT.2 fun q hq=>by
    rcases Bo.1 hq with rfl | hq
    ·exact hp
    ·exact hl q hq
   unfold Zr Yt;rw [e3,e4,e5];exact ⟨rfl,.inl rfl⟩
theorem Qi9 (l:List Pu) (o d:ByteArray):Q7 (Zr l o d) o d=0:=by grind [Zr,Qds,Yw]
theorem QgW (l:List Pu) (o d:ByteArray):Q7 (Yt l o d) o d=0:=by grind [Yt,Qds,Yw]
theorem QeF {l:List Pu} (h:Qbj l) (o d:ByteArray):Q7 l o d=Q7 (l.filter (isU o d)) o d:=by
 have e:=Bl (fun x=>Q7 x o d) (YX l o d h).1
 simp only [QcS,Qi9,QgW] at e;omega
theorem QtQ (o d:ByteArray) (n:Nat) (o' d':ByteArray):Q7 (Qc8 o d n) o' d'=if o'=o∧d'=d then n else 0:=by grind [Q7,Qc8,isU]
theorem QoH {l:List Pu} (h:Qbj l) (o d:ByteArray) (n:Nat) (o' d':ByteArray):Q7 (QcL l o d n) o' d'=if o'=o∧d'=d then n else Q7 l o' d':=by
 unfold QcL;rw [QcS,QcS,QtQ]
 split
 ·rename_i e
  obtain ⟨rfl,rfl⟩:=e;rw [Qi9,QgW];omega
 ·rename_i e
  have hs:=Bl (fun x=>Q7 x o' d') (YX l o d h).1
  simp only [QcS] at hs;rw [hs,Qds (l.filter (isU o d)) o' d' fun p hp hh=>?_]
  have:=(Cf.1 hp).2;unfold isU at this;rw [BR] at this;exact e ⟨hh.1.symm.trans this.1,hh.2.symm.trans this.2⟩
theorem Qo7 {l:List Pu} (h:Qbj l) (o d:ByteArray) (n:Nat) (d':ByteArray):Q8 (QcL l o d n) d'+(if d'=d then Q7 l o d else 0)=Q8 l d'+(if d'=d then n else 0):=by
 obtain ⟨hs,hm⟩:=YX l o d h;have e1:=Bl (fun x=>Q8 x d') hs
 have e2:=QeF h o d;simp only [Qb0] at e1;unfold QcL;rw [Qb0,Qb0,e1]
 have e3:Q8 (Qc8 o d n) d'=if d'=d then n else 0:=by
  unfold Qc8
  split
  ·rename_i h;subst h;simp [Q8]
  ·simp only [Q8]
   split
   ·grind
   ·grind
 have e4:Q8 (l.filter (isU o d)) d'=if d'=d then Q7 l o d else 0:=by
  rw [e2]
  rcases hm with hm | ⟨k,hm,-⟩
  ·rw [hm];simp [Q8,Q7]
  ·rw [hm]
   simp only [Q8,Q7,isU]
   by_cases e:d'=d
   ·grind
   ·grind
 omega
theorem QoV {l:List Pu} (h:Qbj l) (ha:∀ p∈l,0<p.amount) (o d:ByteArray) (n:Nat):(QcL l o d n).length+(if Q7 l o d=0 then 0 else 1)=l.length+(if n=0 then 0 else 1):=by
 obtain ⟨hs,hm⟩:=YX l o d h;have e1:=Bl List.length hs;have e2:=QeF h o d;simp only [Br] at e1;unfold QcL Qc8;rw [Br,Br,e1]
 have e4:(l.filter (isU o d)).length=if Q7 l o d=0 then 0 else 1:=by
  rw [e2]
  rcases hm with hm | ⟨k,hm,hk⟩
  ·rw [hm];simp [Q7]
  ·rw [hm]
   have:=ha _ hk;simp only [Q7,isU];simp at this ⊢;omega
 have e5:(if n=0 then [] else [(⟨o,d,n⟩:Pu)]).length=if n=0 then 0 else 1:=by split <;> rfl
 omega
theorem Qtf {l:List Pu} (h:Qbj l) (o d:ByteArray) (n:Nat):Qbj (QcL l o d n):=by grind [Qbj,QcL,Yt,QO,Zr,Qc8,Yx]
structure QT (l:List Pu):Prop where
 sort:Qbj l
 ok:∀ p∈l,QH p.owner=true∧QH p.denom=true∧0<p.amount∧p.amount<18446744073709551616
theorem QT.nil: QT []:=⟨List.Pairwise.nil,fun _ h=>(by cases h)⟩
theorem QT.put {l:List Pu} (h:QT l) {o:ByteArray} (ho:QH o=true) (hd:QH d=true) (hn:n<18446744073709551616):QT (QcL l o d n):=by
 refine ⟨Qtf h.sort _ _ _,fun p hp=>?_⟩
 rcases Bw.1 hp with hp | hp
 ·exact h.ok p (Cf.1 hp).1
 rcases Bw.1 hp with hp | hp
 ·unfold Qc8 at hp
  split at hp
  ·grind
  ·grind
 ·exact h.ok p (Cf.1 hp).1
theorem Qja {l:List Pu} (h:QT l) (o d:ByteArray):Q7 l o d<18446744073709551616:=by
 rw [QeF h.sort]
 rcases (YX l o d h.sort).2 with hm | ⟨k,hm,hk⟩
 ·rw [hm];simp [Q7]
 ·rw [hm]
  have:=(h.ok _ hk).2.2.2;simp [Q7,isU];simpa using this
theorem Qiv {p:Pu}:Qcy p=0↔QH p.owner=true∧QH p.denom=true∧0<p.amount:=by grind [Qcy]
theorem Qpd {α:Type} {f:α→Int} {lt:α→α→Bool}:∀ (l:List α) (p:Option α),(∀ x∈l,f x=0)→(∀ a,p=some a→∀ x∈l,lt a x=true)→l.Pairwise (fun a b=>lt a b=true)→Qdj f lt p l=0
 | [],_,_,_,_=>rfl
 | x :: l,p,h1,h2,h3=>by
  obtain ⟨g1,g2⟩:=CL.1 h3;rw [Qdj,if_neg (by simp [h1 x (.head _)]),if_neg ?_]
  ·exact Qpd l (some x) (fun y hy=>h1 y (.tail _ hy)) (fun a ha y hy=>by obtain rfl:=Bu ha;exact g1 y hy) g2
  ·cases p with
   | none=>simp [QaH]
   | some a=>simp [QaH,h2 a rfl x (.head _)]
def Qh1 (l:List Pu):Bool:=decide (l.length≤60) && decide (QaM l=0)
theorem Qet {l:List Pu} (hf:∀ p∈l,p.amount<18446744073709551616):Qh1 l=true↔l.length≤60∧QT l:=by
 unfold Qh1;rw [BX,BR,BR];refine and_congr Iff.rfl ?_
 constructor
 ·intro h
  obtain ⟨h1,-,h3⟩:=Qlb (f:=Qcy) (lt:=QO) (fun _ _ _ h1 h2=>Yx h1 h2) l none h
  exact ⟨h3,fun p hp=>by obtain ⟨a,b,c⟩:=Qiv.1 (h1 p hp);exact ⟨a,b,c,hf p hp⟩⟩
 ·intro h
  exact Qpd l none (fun p hp=>by obtain ⟨a,b,c,-⟩:=h.ok p hp;exact Qiv.2 ⟨a,b,c⟩) (fun _ h=>(by cases h)) h.sort
def Qbs (l:List Pu) (o d:ByteArray) (n:Nat):Int:=if (QH o && QH d)=false then 4 else if n=0 then 0 else if 18446744073709551616≤Q8 l d+n then 3 else if 60≤l.length∧Q7 l o d=0 then 5 else 0
def QaD (l:List Pu) (o d:ByteArray) (n:Nat):List Pu:=if Qbs l o d n≠0 then [] else if n=0 then l else QcL l o d (Q7 l o d+n)
def Qal (l:List Pu) (o d:ByteArray) (n:Nat):Int:=if (QH o && QH d)=false then 4 else if Q7 l o d<n then 8 else 0
def Qbl (l:List Pu) (o d:ByteArray) (n:Nat):List Pu:=if Qal l o d n≠0 then [] else QcL l o d (Q7 l o d-n)
def Qas (l:List Pu) (a b d:ByteArray) (n:Nat):Int:=if Qal l a d n≠0 then Qal l a d n else Qbs (Qbl l a d n) b d n
def J9 (l:List Pu) (a b d:ByteArray) (n:Nat):List Pu:=if Qal l a d n≠0 then [] else QaD (Qbl l a d n) b d n
structure Qu7 (l:List Pu) (o d:ByteArray) (n:Nat) (m:List Pu):Prop where
 right:QT m
 amt:∀ o' d',Q7 m o' d'=Q7 l o' d'+if o'=o∧d'=d then n else 0
 sup:∀ d',Q8 m d'=Q8 l d'+if d'=d then n else 0
 len:m.length≤60
theorem Qck {l:List Pu} (h:QT l) (hl:l.length≤60) {o:ByteArray} (hn:n<18446744073709551616) (he:Qbs l o d n=0):Qu7 l o d n (QaD l o d n)∧(0<n→Q8 l d+n<18446744073709551616):=by
 unfold QaD;rw [if_neg (by omega)]
 unfold Qbs at he
 by_cases hw:(QH o && QH d)=false
 ·simp_all
 have hw':QH o=true∧QH d=true:=by simp_all
 by_cases h0:n=0
 ·subst h0
  exact ⟨⟨h,fun _ _=>by simp,fun _=>by simp,hl⟩,fun h=>by omega⟩
 rw [if_neg h0] at he ⊢
 by_cases h1:18446744073709551616≤Q8 l d+n
 ·omega
 have ha:=Qb2 l o d;refine ⟨⟨h.put hw'.1 hw'.2 (by omega),fun o' d'=>?_,fun d'=>?_,?_⟩,fun _=>by omega⟩
 ·rw [QoH h.sort]
  split
  ·simp_all
  ·rfl
 ·have:=Qo7 h.sort o d (Q7 l o d+n) d'
  split at this
  ·grind
  ·simp_all
 ·have:=QoV h.sort (fun p hp=>(h.ok p hp).2.2.1) o d (Q7 l o d+n)
  by_cases h2:60≤l.length∧Q7 l o d=0
  ·omega
  ·grind
structure QvA (l:List Pu) (o d:ByteArray) (n:Nat) (m:List Pu):Prop where
 has:n≤Q7 l o d
 right:QT m
 amt:∀ o' d',Q7 m o' d'=Q7 l o' d'-if o'=o∧d'=d then n else 0
 sup:∀ d',Q8 m d'=Q8 l d'-if d'=d then n else 0
 len:m.length≤l.length
theorem QeI {l:List Pu} (h:QT l) {o:ByteArray} (he:Qal l o d n=0):QvA l o d n (Qbl l o d n):=by
 unfold Qbl;rw [if_neg (by omega)]
 unfold Qal at he
 by_cases hw:(QH o && QH d)=false
 ·simp_all
 have hw':QH o=true∧QH d=true:=by simp_all
 by_cases h1:Q7 l o d<n
 ·omega
 have hb:=Qja h o d;refine ⟨by omega,h.put hw'.1 hw'.2 (by omega),fun o' d'=>?_,fun d'=>?_,?_⟩
 ·rw [QoH h.sort]
  split
  ·simp_all
  ·rfl
 ·have:=Qo7 h.sort o d (Q7 l o d-n) d'
  split at this
  ·grind
  ·simp_all
 ·have:=QoV h.sort (fun p hp=>(h.ok p hp).2.2.1) o d (Q7 l o d-n)
  split at this <;> split at this <;> omega
structure QvK (l:List Pu) (a b d:ByteArray) (n:Nat) (m:List Pu):Prop where
 has:n≤Q7 l a d
 right:QT m
 amt:∀ o' d',(Q7 m o' d':Int)=Q7 l o' d'-(if o'=a∧d'=d then (n:Int) else 0)+(if o'=b∧d'=d then (n:Int) else 0)
 sup:∀ d',Q8 m d'=Q8 l d'
 len:m.length≤60
theorem Zq {l:List Pu} (h:QT l) (hl:l.length≤60) {a b:ByteArray} (hn:n<18446744073709551616) (he:Qas l a b d n=0):QvK l a b d n (J9 l a b d n):=by
 unfold Qas at he;unfold J9
 by_cases h1:Qal l a d n=0
 ·rw [if_neg (by omega)] at he ⊢
  have B:=QeI h h1;obtain ⟨M,-⟩:=Qck B.right (by have:=B.len;omega) hn he
  have hh:=B.has;refine ⟨B.has,M.right,fun o' d'=>?_,fun d'=>?_,M.len⟩
  ·rw [M.amt,B.amt]
   by_cases e1:o'=a∧d'=d
   ·grind
   ·grind
  ·rw [M.sup,B.sup]
   have:=Qb2 l a d
   split
   ·grind
   ·omega
 ·omega
theorem Qfx (a b:Nat) (ha:a<18446744073709551616) (hb:b<18446744073709551616) (w:World):(callFunc 36 #[.int .u64 (a:Int),.int .u64 (b:Int),.int .u64 0]).run prog w=.ok (.value (.tuple #[.int .u64 (((a+b) % 18446744073709551616:Nat):Int),.int .u64 (((a+b) / 18446744073709551616:Nat):Int)])) w:=by
 rw [Ed func36 (by kernel_rfl) (by kernel_rfl) (by kernel_rfl) (e:=add64Entry) (by kernel_rfl),run_add64 _ _ 0 (by omega) (by omega) (by omega) (by omega)]
 congr 5 <;> omega
theorem Qtl {l:List Pu} {p:Pu} (h:l[k]?=some p) (d:ByteArray):Q8 (l.take (k+1)) d=Q8 (l.take k) d+if p.denom=d then p.amount else 0:=by grind [Q8,Qb0,List.take_add_one]
theorem QmT (l:List Pu) (k:Nat) (d:ByteArray):Q8 (l.take k) d≤Q8 l d:=by grind [Qb0,List.take_append_drop]
theorem QtX {c:Code} (h:∀ w2,Row w2 w1.heap.size t cs→Bd w1 w2→c.wp P Q a w2):c.wp P Q a (w1.alloc (.cells cs.toArray t)) :=
 h _ (Row.new _ _ _) ((Bi _ _).alloc (by omega) _)
def QqX (l:List Pu) (d:ByteArray):Value:=.tuple #[.int .u64 ((if Q8 l d<18446744073709551616 then Q8 l d else 0:Nat):Int),.bool (decide (18446744073709551616≤Q8 l d))]
theorem Qt.purse {c:Nat} {l:List Pu} {p:Pu} (h:Qt PuR 3 w N (.slice oa n c) l) (hn:0<n) (hk:l[k]?=some p) (hb:Below N w W):∃ b f,oa=some ⟨b,f,none⟩∧b<N∧W.cell? ⟨b,f+k*3,none⟩=some (.string p.owner)∧W.cell? ⟨b,f+k*3+1,none⟩=some (.string p.denom)∧W.cell? ⟨b,f+k*3+2,none⟩=some (.int .u64 (p.amount:Int)):=by
 obtain ⟨b,f,he,j⟩:=h.spot hn;obtain ⟨e,r,rfl,hc⟩:=j k p hk;have c0:=hc 0 _ rfl;exact ⟨b,f,he,e,(hb.cell (p:=⟨b,f+k*3,none⟩) e).trans c0,(hb.cell (p:=⟨b,f+k*3+1,none⟩) e).trans (hc 1 _ rfl),(hb.cell (p:=⟨b,f+k*3+2,none⟩) e).trans (hc 2 _ rfl)⟩
theorem Qeu (l:List Pu) (d:ByteArray) (sv:Value) (N:Nat) (w:World) (hN:N≤w.heap.size) (hl:Qt PuR 3 w N sv l) (hf:∀ p∈l,p.amount<18446744073709551616) (hlen:l.length<2305843009213693952) :
  Calls prog 11 #[sv,.string d] w fun e w'=>e=.returned (QqX l d)∧Bd w w':=by
 obtain ⟨oa,ca,rfl,hca⟩:=hl.shape;have HL:=hid hl;have HF:=hid hf;clear hl hf;generalize hn:l.length=n at *;have HN:=hid hn;clear hn
 go_in
 go_wp2_with fail
 go_loopw [6,7,12] (fun s6 s7 z wr=>∃ k S:Nat,k≤n∧z=Bb k∧s6=.int .u64 S∧S<18446744073709551616∧s7=.int .u64 0∧Hid (Q8 (l.take k) d=S)∧Hid (Bd w wr)) (fun _ _ z _=>n-(intOf z).toNat)
 case atStart=>exact ⟨0,0,BF _,rfl,rfl,by decide,rfl,rfl,Bi _ _⟩
 case round =>
  obtain ⟨k,S,hk,rfl,rfl,hS,rfl,HS,HB⟩:=hrel
  by_cases E:k<n
  ·obtain ⟨p,hp⟩:∃ p,l[k]?=some p:=⟨l[k]'(by rw [HN.out];exact E),Bk _⟩
   obtain ⟨b,f,rfl,hbN,c0,c1,c2⟩:=HL.out.purse (by omega) hp (HB.out.mono hN)
   have HT:=hid (Qtl hp d);have G:=HF.out p (Bn hp);have hlt':(k:Int)<(n:Int):=by omega
   have I:=HB.out.size;have D:b<wr.heap.size:=by omega
   clear hp
   go_upto_region 5 with fail
   refine QtX ?_;intro w1 C A;have j:=hid (HB.out.trans (A.mono I));obtain ⟨k0,k1,k2⟩:=C.k3;clear c0 c1 c2 C A D
   by_cases hd:p.denom=d
   ·subst hd
    rw [if_pos rfl] at HT;have ha:=Qfx S p.amount hS G
    by_cases m:S+p.amount<18446744073709551616
    ·rw [Cv m,Nat.div_eq_of_lt m] at ha
     go_wp2_with fail
     refine ⟨⟨k+1,S+p.amount,by omega,by go_num,rfl,m,rfl,by rw [← HS.out];exact HT.out,j.out⟩,by simp [intOf];omega⟩
    ·obtain ⟨q,hq⟩:∃ q,(S+p.amount) / 18446744073709551616=q:=⟨_,rfl⟩
     have hq1:decide ((0:Int)<(q:Int))=true:=by simp;omega
     have HX:=hid (QmT l (k+1) p.denom);rw [hq] at ha;go_wp2;go_ret2;have:=HT.out;have:=HX.out;have:=HS.out;refine ⟨?_,j.out⟩;unfold QqX;rw [if_neg (by omega),BB (by omega:18446744073709551616≤Q8 l p.denom)]
     rfl
   ·rw [if_neg hd,BK] at HT
    have hd':(p.denom.toList == d.toList)=false:=by simp;exact fun h=>hd (toList_inj h)
    clear hd
    go_wp2_with fail
    refine ⟨⟨k+1,S,by omega,by go_num,rfl,hS,rfl,by rw [← HS.out];exact HT.out,j.out⟩,by simp [intOf];omega⟩
  ·obtain rfl:k=n:=by omega
   have hlt':decide ((k:Int)<(k:Int))=false:=by simp
   go_wp2;go_ret2;have:=HS.out;rw [← HN.out,List.take_length] at this;refine ⟨?_,HB.out⟩;unfold QqX;rw [this,if_pos hS,BD (by omega:¬ 18446744073709551616≤S)]
   rfl
theorem Qne (l:List Pu) (d:ByteArray) (x:Nat) (sv:Value) (N:Nat) (w:World) (hN:N≤w.heap.size) (hl:Qt PuR 3 w N sv l) (hf:∀ p∈l,p.amount<18446744073709551616) (b:l.length<2305843009213693952) (hx:x<18446744073709551616) :
  Calls prog 174 #[sv,.string d,.int .u64 (x:Int)] w fun e w'=>e=.returned (.bool (decide (18446744073709551616≤Q8 l d+x)))∧Bd w w':=by
 have HC:=hid (Qeu l d sv N w hN hl hf b);unfold QqX at HC
 by_cases hs:Q8 l d<18446744073709551616
 ·rw [if_pos hs,BD (by omega:¬ 18446744073709551616≤Q8 l d)] at HC
  have ha:=Qfx (Q8 l d) x hs hx;generalize Q8 l d=S at *;obtain ⟨q,hq⟩:∃ q,(S+x) / 18446744073709551616=q:=⟨_,rfl⟩;have HQ:=hid (show decide (0<q)=decide (18446744073709551616≤S+x) by rw [decide_eq_decide];omega)
  go_in
  go_wp2_with fail
  refine HC.out.mono ?_;rintro e w1 ⟨rfl,hb⟩;have HB:=hid hb;go_wp2;go_ret;exact ⟨by rw [← HQ.out];rfl,HB.out⟩
 ·rw [if_neg hs,BB (by omega:18446744073709551616≤Q8 l d)] at HC
  obtain ⟨q,r,ha⟩:∃ q r:Nat,∀ w:World,(callFunc 36 #[.int .u64 0,.int .u64 (x:Int),.int .u64 0]).run prog w=.ok (.value (.tuple #[.int .u64 (r:Int),.int .u64 (q:Int)])) w:=⟨_,_,Qfx 0 x (by decide) hx⟩
  go_in
  go_wp2_with fail
  refine HC.out.mono ?_;rintro e w1 ⟨rfl,hb⟩;have HB:=hid hb;go_wp2;go_ret;exact ⟨by rw [BB (by omega:18446744073709551616≤Q8 l d+x)];rfl,HB.out⟩
theorem Qp6 (l:List Nat):∀ (k:Bg),Jt k l=k ++ l.flatMap (fun n=>47 :: Zi n):=by
 induction l with
 | nil=>intro k;simp [Jt]
 | cons n l ih=>intro k;rw [Jt,ih,List.flatMap_cons];simp
theorem Qtn (w:World) (s:ByteArray) (hs:s.size≤1000):Jd (Lib.bytesWorld w 5 s) w.heap.size (.slice (some ⟨w.heap.size,0,none⟩) s.size (grownCap w s.size 0 5)) (Yo s):=by
 have m:=Du w s.size 0 5
 have j:(Lib.bytesCells w 5 s).size=grownCap w s.size 0 5:=by
  have:s.data.size=s.size:=rfl;simp [Lib.bytesCells];omega
 refine ⟨w.heap.size,_,_,_,by rw [QV],Bj _,Lib.bytesWorld_at_new w 5 s,.inr (Bj _),by rw [QV];exact m,DJ w s.size 0 5 (by simp only [maxLen];omega),j,?_⟩
 rw [QV];unfold Lib.bytesCells Yo;have e:s.size=(s.data.map fun b=>Value.int .u8 (b.toNat:Int)).toList.length:=by simp
 rw [DK,e,List.take_left];simp [V,b8]
theorem Qo2 (w:World) (b:BitVec 8):Bytes (w.alloc (.cells #[.int .u8 (b8 b)] 5)) (w.heap.size+1) (.slice (some ⟨w.heap.size,0,none⟩) 1 1) [b]:=by
 refine .inr (.inr ⟨w.heap.size,0,1,rfl,by simp,fun i hi=>⟨by omega,?_⟩⟩)
 obtain rfl:i=0:=by simpa using hi
 rw [Row.cell (Row.new w 5 [.int .u8 (b8 b)])];rfl
def QiR (k:Bg) (ns:List Int) (j:Nat):Bg:=k ++ (ns.take j).flatMap (fun n=>47 :: Zi n.toNat)
theorem QjF (k:Bg) (ns:List Int) (j:Nat) (n:Int) (h:ns[j]?=some n):QiR k ns (j+1)=QiR k ns j ++ [47] ++ Zi n.toNat:=by
 unfold QiR;rw [Dh,h];simp
theorem Qr4 (k:Bg) (ns:List Int) (j:Nat) (h:ns.length≤j):QiR k ns j=Jt k (ns.map (·.toNat)):=by
 unfold QiR;rw [Qp6,BA h,List.flatMap_map]
theorem Qr5 (k:Bg) (ns:List Int) (hp:∀ n∈ns,0≤n∧n≤1000000000000):∀ j,j≤ns.length→(QiR k ns j).length≤k.length+14*j:=by
 intro j
 induction j with
 | zero=>intro _;simp [QiR]
 | succ j ih =>
  intro hj;obtain ⟨n,hn⟩:∃ n,ns[j]?=some n:=⟨_,Bk (by omega)⟩
  have:=ih (by omega)
  have h2:=hp n (Bn hn);have h3:=Zj 12 n.toNat (by omega)
  rw [QjF k ns j n hn];simp only [Br,List.length_singleton];omega
theorem QaT (kind:ByteArray) (ns:List Int) (g n:Nat) (w:World) (hk:kind.size≤100) (hr:Row w g 3 (ns.map (Value.int .i64))) (hn:n=ns.length) (hl:n≤10) (hp:∀ n∈ns,0≤n∧n≤1000000000000) (m:QL w) :
  Calls prog 146 #[.string kind,.slice (some ⟨g,0,none⟩) n n] w fun e w'=>∃ v,e=.returned v∧Jd w' w.heap.size v (Jt (Yo kind) (ns.map (·.toNat)))∧Bd w w':=by
 have aA:=hr.lt;have Y:=QfE w kind;obtain ⟨wb,G⟩:∃ wb,Lib.bytesWorld w 5 kind=wb:=⟨_,rfl⟩;have b:=Qtn w kind (by omega)
 have z:=Qev w kind;rw [G] at Y b z;have L:=hid z;have S:=hid b;have HR:=hid hr;have HT:=hid m;have HP:=hid hp;have HN:=hid hn;have hlk:(Yo kind).length≤100:=by rw [QV];exact hk
 have M:=hid (Qr5 (Yo kind) ns hp);clear hr m b z G hp hn
 go_in
 go_wp2_with fail
 go_loopw [5,7,12] (fun o _ i wr=>∃ k:Nat,k≤n∧i=Bb (k:Int)∧Hid (Jd wr w.heap.size o (QiR (Yo kind) ns k)∧Bd w wr)) (fun _ _ i _=>n-(intOf i).toNat)
 case atStart=>exact ⟨0,by omega,rfl,hid ⟨by have:=S.out;simpa [QiR] using this,L.out⟩⟩
 case round =>
  obtain ⟨k,hk',rfl,HI⟩:=hrel;have j:=hid HI.out.2;have A:=hid HI.out.1;have E:=j.out.size;clear HI
  by_cases aB:k<n
  ·obtain ⟨x,hx⟩:∃ x,ns[k]?=some x:=⟨ns[k]'(by rw [← HN.out];exact aB),Bk _⟩
   have hlt':(k:Int)<(n:Int):=by omega
   have c0:wr.cell? ⟨g,k,none⟩=some (Bb x):=by rw [(HR.out.below j.out aA).cell,Bs,hx];rfl
   have hx0:=HP.out x (Bn hx);obtain ⟨u,rfl⟩:∃ u:Nat,x=(u:Int):=⟨x.toNat,by omega⟩
   have HX:=hid hx;have O:=hid (QjF (Yo kind) ns k _ hx);have hln:=M.out k (by rw [← HN.out];omega)
   clear hx
   go_wp2_with (at_builtin;refine Hid.out ?_)
   refine hid ?_;refine Qdn rfl (.tmp 16) (.tmp 17) rfl w.heap.size _ _ (QiR (Yo kind) ns k) [47] rfl (A.out.below ((Bi _ _).alloc (Bj _) _)) (wr.heap.size+1) rfl (Qo2 wr 47) (by simp;omega) (by simp;omega) ?_
   intro v1 w1 D C _;have q:=hid (j.out.trans (((Bi _ _).alloc E _).trans C));have I:=hid (QiE u (by omega) _ v1 w.heap.size w1 q.out.size D (by simp;omega) (HT.out.below q.out))
   clear D C
   go_wp2_with (go_at_call 191;refine (I.out).mono ?_;rintro e w2 ⟨v2,rfl,aC,T,-⟩)
   go_roundw
   case rel=>exact ⟨k+1,by omega,by go_num,hid ⟨by rw [O.out];exact aC,q.out.trans T⟩⟩
   case measure=>simp [intOf];omega
  ·have hge:decide ((k:Int)<(n:Int))=false:=by simp;omega
   have HE:=hid (Qr4 (Yo kind) ns k (by rw [← HN.out];omega))
   obtain ⟨ov,hov⟩:∃ ov,u5=ov:=⟨_,rfl⟩;go_wp2;go_ret;exact ⟨_,rfl,by rw [← HE.out];exact A.out,j.out⟩
theorem Qum (n:Nat):Zk n≠[]:=by
 by_cases h:n<128
 ·rw [Qa8 h];simp
 ·rw [Qc6 (by omega)];simp
theorem Qsv (l:List Int):ZK l≠[]:=by
 unfold ZK;intro h;exact Qum _ (List.append_eq_nil_iff.1 h).1
theorem Jd.of_own {base:Nat} (h:Qq w base v l) (hl:l≠[]):Jd w base v l:=by
 refine Jd.of_new h fun e=>?_
 obtain ⟨h1,⟨_,h0⟩ | ⟨g,cap,cur,hv,_⟩⟩:=h
 ·exact hl (CD.1 h0)
 ·rw [e] at hv;simp at hv
theorem Jd.mono {base base':Nat} (h:Jd w base v l) (hb:base'≤base):Jd w base' v l:=by
 obtain ⟨g,b,e,fz,h1,h2,h3⟩:=h;exact ⟨g,b,e,fz,h1,Bh hb h2,h3⟩
def Qra (cs:List Value) (ns:List Int) (n k:Nat):Prop:=cs.length=n*3∧∀ (i:Nat) x,i<k→ns[i]?=some x→cs[i*3]?=some (Bb 1)∧cs[i*3+1]?=some (.int .u64 x)∧cs[i*3+2]?=some (Bc)
theorem Qra.next {ns:List Int} {x:Int} (h:Qra cs ns n k) (hx:ns[k]?=some x) (hk:k<n):Qra (((cs.set (k*3) (Bb 1)).set (k*3+1) (.int .u64 x)).set (k*3+2) (Bc)) ns n (k+1):=by
 refine ⟨by simp [h.1],fun i y hi hy=>?_⟩
 have hl:=h.1
 by_cases e:i=k
 ·subst e
  obtain rfl:x=y:=by rw [hx] at hy;simpa using hy
  refine ⟨?_,?_,?_⟩
  ·rw [BZ (by omega),BZ (by omega),Dy (by omega)]
  ·rw [BZ (by omega),Dy (by simp;omega)]
  ·rw [Dy (by simp;omega)]
 ·obtain ⟨h1,h2,h3⟩:=h.2 i y (by omega) hy
  refine ⟨?_,?_,?_⟩
  ·rw [BZ (by omega),BZ (by omega),BZ (by omega)];exact h1
  ·rw [BZ (by omega),BZ (by omega),BZ (by omega)];exact h2
  ·rw [BZ (by omega),BZ (by omega),BZ (by omega)];exact h3
theorem Ql6 {ns:List Int} (hr:Row w g 184 cs) (h:Qra cs ns n n) (hn:n=ns.length) (hp:∀ x∈ns,0≤x):JF w w.heap.size (.slice (some ⟨g,0,none⟩) n n) (ns.map ZU):=by
 refine .inr (.inr ⟨g,0,n,by rw [Bp,hn],by rw [Bp,hn];exact Bj _,fun i p hi=>⟨hr.lt,Bc,?_⟩⟩)
 obtain ⟨x,hx,rfl⟩:∃ x,ns[i]?=some x∧ZU x=p:=by simpa [List.getElem?_map] using hi
 have hil:i<ns.length:=(Bm.1 hx).1;obtain ⟨h1,h2,h3⟩:=h.2 i x (by omega) hx
 have hx0:=hp x (Bn hx);rw [Bq,hr.cell,hr.cell,hr.cell];refine ⟨h1,?_,h3,.inl ⟨rfl,rfl⟩⟩;rw [h2]
 congr 2
 show x=((x.toNat:Nat):Int)
 omega
theorem Qbu (ns:List Int) (g n:Nat) (w:World) (hr:Row w g 3 (ns.map (Value.int .i64))) (hn:n=ns.length) (hl:n≤4) (hp:∀ x∈ns,0≤x∧x≤9223372036854775807) :
  Calls prog 147 #[.slice (some ⟨g,0,none⟩) n n] w fun e w'=>∃ v,e=.returned v∧Jd w' w.heap.size v (ZK ns)∧Bd w w':=by
 have aN:=hr.lt;obtain ⟨i0,aO,aR,aS,aT⟩:=Cg Qch;obtain ⟨w1,hrun,z,b⟩:=run_make_full (P:=prog) w w.heap.size 186 184 i0 _ 3 underlying186 aO aR aS .i64 .i64 n (by rw [aT];omega) (by unfold maxLen;omega) (Bj _)
 have aG:=hid (show Bd w w1 from ⟨b.os,b.tape,b.output,b.size,fun k hk=>b.block k hk (by simp)⟩)
 obtain ⟨cs,aB,Y⟩:∃ cs:List Value,Hid (Row w1 w.heap.size 184 cs)∧Hid (cs.length=n*3):=by
  obtain ⟨h1,⟨h2,_⟩ | ⟨g',cap,aL,h2,_,hg,_,_,aM,_⟩⟩:=z
  ·simp at h2
  ·simp at h2
   obtain ⟨rfl,rfl⟩:=h2;exact ⟨aL.toList,hid (by unfold Row;simpa using hg),hid (by simpa using aM)⟩
 have HR:=hid hr;have HP:=hid hp;have HN:=hid hn;have aC:=hid (QgI ns (by omega) (fun x hx=>by have:=hp x hx;omega)).1
 have T:=hid (show ∀ p∈ns.map ZU,p.fits from fun p aQ=>by
  obtain ⟨x,hx,rfl⟩:=BC.1 aQ;have:=hp x hx;refine ⟨?_,?_⟩
  ·show x.toNat<_;omega
  ·simp [ZU])
 clear hr z b hp hn
 go_in
 go_wp2_with fail
 go_loopw [4,5,13] (fun _ _ i wr=>∃ k:Nat,k≤n∧i=Bb (k:Int)∧Hid (Bd w wr∧∃ cs,Row wr w.heap.size 184 cs∧Qra cs ns n k)) (fun _ _ i _=>n-(intOf i).toNat)
 case atStart=>exact ⟨0,by omega,rfl,hid ⟨aG.out,cs,aB.out,Y.out,fun i x hi=>absurd hi (by omega)⟩⟩
 case round =>
  obtain ⟨k,hk',rfl,HI⟩:=hrel;obtain ⟨aE,M,A,m⟩:=HI.out;have C:=hid aE;have j:=hid A;have I:=hid m;have G:=C.out.size;have hlt0:=A.lt;clear HI aE A m
  by_cases aF:k<n
  ·obtain ⟨x,hx⟩:∃ x,ns[k]?=some x:=⟨ns[k]'(by rw [← HN.out];exact aF),Bk _⟩
   have hlt':(k:Int)<(n:Int):=by omega
   have c0:wr.cell? ⟨g,k,none⟩=some (Bb x):=by rw [(HR.out.below C.out aN).cell,Bs,hx];rfl
   have hx0:=HP.out x (Bn hx);have hwx:IntKind.u64.wrap x=x:=by rw [Ek];omega
   have aP:=I.out.1;obtain ⟨q0,e0⟩:∃ q,M[k*3]?=some q:=⟨_,Bk (by omega)⟩
   obtain ⟨q1,e1⟩:∃ q,M[k*3+1]?=some q:=⟨_,Bk (by omega)⟩
   obtain ⟨q2,e2⟩:∃ q,M[k*3+2]?=some q:=⟨_,Bk (by omega)⟩
   have y0:wr.cell? ⟨w.heap.size,k*3,none⟩=some q0:=by rw [j.out.cell];exact e0
   have y1:wr.cell? ⟨w.heap.size,k*3+1,none⟩=some q1:=by rw [j.out.cell];exact e1
   have y2:wr.cell? ⟨w.heap.size,k*3+2,none⟩=some q2:=by rw [j.out.cell];exact e2
   have f0:=j.out.frozen (k*3);have f1:=j.out.frozen (k*3+1);have f2:=j.out.frozen (k*3+2);have HX:=hid hx;obtain ⟨wn,D⟩:∃ wn,((wr.setCell ⟨w.heap.size,k*3,none⟩ (Bb 1)).setCell ⟨w.heap.size,k*3+1,none⟩ (.int .u64 x)).setCell ⟨w.heap.size,k*3+2,none⟩ (Bc)=wn:=⟨_,rfl⟩;have S:=hid (show Bd w wn by rw [← D];exact ((C.out.setCell (Bj _) _).setCell (Bj _) _).setCell (Bj _) _)
   have aA:=hid (show Row wn w.heap.size 184 _ by rw [← D];exact ((j.out.set (k*3) _).set (k*3+1) _).set (k*3+2) _)
   have aI:=hid (I.out.next hx aF);have L:=hid D;clear hx e0 e1 e2 aP D;go_wp2
   first | rw [L.out] | skip
   go_roundw
   case rel=>exact ⟨k+1,by omega,by go_num,hid ⟨by first | exact S.out | (rw [L.out];exact S.out),_,by first | exact aA.out | (rw [L.out];exact aA.out),aI.out⟩⟩
   case measure=>simp [intOf];omega
  ·have hge:decide ((k:Int)<(n:Int))=false:=by simp;omega
   obtain rfl:k=n:=by omega
   have aK:=hid (Ql6 j.out I.out HN.out (fun x hx=>(HP.out x hx).1))
   have aH:=hid (QdC (ns.map ZU) _ wr.heap.size wr aK.out (Bj _) (by rw [Bp,← HN.out];omega) T.out)
   go_wp2_with fail
   refine aH.out.mono ?_;rintro e w2 ⟨aD,⟨x,v,hx,rfl,E⟩ | ⟨c,i,hx,_⟩⟩
   ·obtain rfl:ZK ns=x:=by rw [aC.out] at hx;simpa using hx
    have O:=hid (C.out.trans (aD.mono G));have aJ:=hid (Jd.mono (Jd.of_own E (Qsv ns)) G);clear aD hx E;unfold okV;go_wp2;go_ret;exact ⟨_,rfl,aJ.out.below ((Bi _ _).alloc (Bj _) _),O.out.alloc O.out.size _⟩
   ·rw [aC.out] at hx;cases hx
theorem Qmb (a b:ByteArray):Yo (a ++ b)=Yo a ++ Yo b:=by simp [Yo]
theorem Qsh (l:Bg):Yo (strOfNums (l.map b8))=l:=by
 unfold Yo strOfNums;simp only [List.map_map]
 conv=>rhs;rw [← List.map_id l]
 apply List.map_congr_left;intro x _;simp [b8]
theorem QiV: ∀ (n:Nat),n≤9223372036854775807→∀ (w:World),Calls prog 37 #[Bb (n:Int)] w fun e w'=>∃ s,e=.returned (.string s)∧Yo s=Zi n∧Bd w w':=by
 intro n
 induction n using Nat.strongRecOn with
 | _ n ih =>
  intro hn w
  by_cases h:n<10
  ·have h':(n:Int)<10:=by omega
   have HD:=hid (Qca h);have ho:=Qo2 w (BitVec.ofNat 8 (48+n));have q:b8 (BitVec.ofNat 8 (48+n))=48+(n:Int):=by unfold b8;rw [BitVec.toNat_ofNat];omega
   have I:=QbN ho;obtain ⟨s,hs⟩:∃ s,strOfNums (List.map b8 [BitVec.ofNat 8 (48+n)])=s:=⟨_,rfl⟩;have HS:=hid (show Yo s=Zi n by rw [← hs,HD.out];exact Qsh _)
   rw [hs,q] at I;have HB:=hid (show Bd w (w.alloc (.cells #[.int .u8 (48+(n:Int))] 5)) from (Bi _ _).alloc (Bj _) _);clear ih hs q ho HD h
   go_in
   go_wp2;go_ret;exact ⟨s,rfl,HS.out,HB.out⟩
  ·have h':decide ((n:Int)<10)=false:=by simp;omega
   have HD:=hid (QlL h);have D:=hid (Qca (show n % 10<10 by omega))
   have A:=hid (ih (n / 10) (by omega) (by omega))
   have C:=hid (ih (n % 10) (by omega) (by omega))
   have q1:((n / 10:Nat):Int)=(n:Int) / 10:=by omega
   have q2:((n % 10:Nat):Int)=(n:Int) % 10:=by omega
   go_in
   go_wp2_with fail
   refine (A.out w).mono ?_;rintro e w1 ⟨s1,rfl,L,E⟩;have j:=hid L;have b:=hid E
   go_wp2_with fail
   refine (C.out w1).mono ?_;rintro e w2 ⟨s2,rfl,M,G⟩;have m:=hid M;have z:=hid G;have hz1:s1.size≤19:=by rw [← QV,j.out];exact Zj 18 _ (by omega)
   have hz2:s2.size≤19:=by rw [← QV,m.out];exact Zj 18 _ (by omega)
   go_wp2;go_ret;exact ⟨_,rfl,by rw [Qmb,j.out,m.out,HD.out,D.out],b.out.trans (z.out.mono b.out.size)⟩
theorem JC (lo n:Int) (w:World):Calls prog 14 #[Bb lo,Bb n] w fun e w'=>e=.returned (.bool (Qs lo n))∧w'=w:=by
 cases e1:decide (lo≤n)
 all_goals
  go_in
  go_wp2;go_ret;exact ⟨by simp [Qs,e1];first | done | rfl,rfl⟩
theorem Ye (s:ByteArray) (w:World):Calls prog 44 #[.string s] w fun e w'=>e=.returned (.bool (QH s))∧w'=w:=by
 have h:QH s=(decide ((1:Int)≤(s.size:Int)) && decide ((s.size:Int)≤40)):=by unfold QH;congr 1 <;> exact decide_eq_decide.2 (by omega)
 cases e1:decide ((1:Int)≤(s.size:Int))
 rotate_left
 cases e2:decide ((s.size:Int)≤40)
 all_goals
  go_in
  go_wp2;go_ret;exact ⟨by rw [h];simp [*];first | done | rfl,rfl⟩
theorem Qi2 (c:Cn) (w:World) :
  Calls prog 20 #[.agg #[Bb c.state,Bb c.client,Bb c.oclient,Bb c.oconn]] w fun e w'=>e=.returned (Bb (Ji c))∧Bd w w':=by
 obtain ⟨w0,b⟩:∃ w0,w.alloc (.cells #[Bb c.state,Bb c.client,Bb c.oclient,Bb c.oconn] 82)=w0:=⟨_,rfl⟩;have j:=hid (show Bd w w0 by rw [← b];exact (Bi _ _).alloc (Bj _) _)
 have k:=(show Row w0 w.heap.size 82 [Bb c.state,Bb c.client,Bb c.oclient,Bb c.oconn] by rw [← b];exact Row.new _ _ _).cell
 have HW:=hid (show Ji c=if (decide (c.state<1) || decide (3<c.state))=true then 1 else if (!Qs 0 c.client || !Qs 0 c.oclient || !Qs (-1) c.oconn)=true then 3 else 0 by grind [Ji])
 cases e0:decide (c.state<1)
 cases e1:decide (3<c.state)
 cases e2:Qs 0 c.client
 rotate_left
 cases e3:Qs 0 c.oclient
 rotate_left
 cases e4:Qs (-1) c.oconn
 all_goals
  go_in
  go_wp2_with (go_at_call 14;refine (JC _ _ _).mono ?_;rintro e w' ⟨rfl,rfl⟩)
  go_ret;exact ⟨by rw [HW.out];simp [*];first | done | rfl,j.out⟩
theorem Qi1 (c:Ch) (w:World) :
  Calls prog 22 #[.agg #[Bb c.state,.bool c.ordered,Bb c.conn,Bb c.ochan,Bb c.send,Bb c.recv,Bb c.ack]] w fun e w'=>e=.returned (Bb (Q1 c))∧Bd w w':=by
 obtain ⟨w0,b⟩:∃ w0,w.alloc (.cells #[Bb c.state,.bool c.ordered,Bb c.conn,Bb c.ochan,Bb c.send,Bb c.recv,Bb c.ack] 86)=w0:=⟨_,rfl⟩;have j:=hid (show Bd w w0 by rw [← b];exact (Bi _ _).alloc (Bj _) _)
 have k:=(show Row w0 w.heap.size 86 [Bb c.state,.bool c.ordered,Bb c.conn,Bb c.ochan,Bb c.send,Bb c.recv,Bb c.ack] by rw [← b];exact Row.new _ _ _).cell
 have HW:=hid (show Q1 c=if (decide (c.state<1) || decide (4<c.state))=true then 1 else if (!Qs 0 c.conn || !Qs (-1) c.ochan || !Qs 1 c.send || !Qs 1 c.recv || !Qs 1 c.ack)=true then 3 else 0 by grind [Q1])
 cases e0:decide (c.state<1)
 cases e1:decide (4<c.state)
 cases e2:Qs 0 c.conn
 rotate_left
 cases e3:Qs (-1) c.ochan
 rotate_left
 cases e4:Qs 1 c.send
 rotate_left
 cases e5:Qs 1 c.recv
 rotate_left
 cases e6:Qs 1 c.ack
 all_goals
  go_in
  go_wp2_with (go_at_call 14;refine (JC _ _ _).mono ?_;rintro e w' ⟨rfl,rfl⟩)
  go_ret;exact ⟨by rw [HW.out];simp [*];first | done | rfl,j.out⟩
theorem Qi3 (m:Mk) (od:Option Addr) (cd:Nat) (w:World) :
  Calls prog 25 #[.agg #[Bb m.chan,Bb m.seq,.slice od m.dig.length cd]] w fun e w'=>e=.returned (Bb (JV m))∧Bd w w':=by
 obtain ⟨w0,b⟩:∃ w0,w.alloc (.cells #[Bb m.chan,Bb m.seq,.slice od m.dig.length cd] 90)=w0:=⟨_,rfl⟩;have j:=hid (show Bd w w0 by rw [← b];exact (Bi _ _).alloc (Bj _) _)
 have k:=(show Row w0 w.heap.size 90 [Bb m.chan,Bb m.seq,.slice od m.dig.length cd] by rw [← b];exact Row.new _ _ _).cell
 have HW:=hid (show JV m=if (!Qs 0 m.chan || !Qs 1 m.seq)=true then 3 else if ((m.dig.length:Int) != 32)=true then 2 else 0 by grind [JV])
 cases e0:Qs 0 m.chan
 rotate_left
 cases e1:Qs 1 m.seq
 rotate_left
 cases e2:((m.dig.length:Int) != 32)
 all_goals
  go_in
  go_wp2_with (go_at_call 14;refine (JC _ _ _).mono ?_;rintro e w' ⟨rfl,rfl⟩)
  go_ret;exact ⟨by rw [HW.out];simp [*];first | done | rfl,j.out⟩
theorem Qiw (p:Pu) (w:World) :
  Calls prog 29 #[.agg #[.string p.owner,.string p.denom,.int .u64 (p.amount:Int)]] w fun e w'=>e=.returned (Bb (Qcy p))∧Bd w w':=by
 obtain ⟨w0,b⟩:∃ w0,w.alloc (.cells #[.string p.owner,.string p.denom,.int .u64 (p.amount:Int)] 70)=w0:=⟨_,rfl⟩;have j:=hid (show Bd w w0 by rw [← b];exact (Bi _ _).alloc (Bj _) _)
 have k:=(show Row w0 w.heap.size 70 [.string p.owner,.string p.denom,.int .u64 (p.amount:Int)] by rw [← b];exact Row.new _ _ _).cell
 have HW:=hid (show Qcy p=if (!QH p.owner || !QH p.denom)=true then 4 else if ((p.amount:Int) == 0)=true then 3 else 0 by grind [Qcy])
 cases e0:QH p.owner
 rotate_left
 cases e1:QH p.denom
 rotate_left
 cases e2:((p.amount:Int) == 0)
 all_goals
  go_in
  go_wp2_with (go_at_call 44;refine (Ye _ _).mono ?_;rintro e w' ⟨rfl,rfl⟩)
  go_ret;exact ⟨by rw [HW.out];simp [*];first | done | rfl,j.out⟩
def Qbg (l:Bg):ByteArray:=strOfNums (l.map b8)
def Qj4 (t:Tr):List Pc:=[⟨2,0,Yo t.denom⟩,⟨1,t.amount,[]⟩,⟨2,0,Yo t.sender⟩,⟨2,0,Yo t.reader⟩]
def QF (t:Tr):Bg:=match YC (Qj4 t) with
 | .ok x=>x
 | .error _=>[]
def Tr.zero:Tr:=⟨⟨#[]⟩,0,⟨#[]⟩,⟨#[]⟩⟩
def QdA:List Pc→Except Int Tr
 | [p0,p1,p2,p3]=>if p0.k=2∧p1.k=1∧p2.k=2∧p3.k=2 then (if (QH (Qbg p0.b) && (QH (Qbg p2.b) && QH (Qbg p3.b)))=false then .error 4 else if p1.n=0 then .error 3 else .ok ⟨Qbg p0.b,p1.n,Qbg p2.b,Qbg p3.b⟩) else .error 2
 | _=>.error 2
def Qco (b:Bg):Except Int Tr:=match ZL b with
 | .ok m=>QdA m
 | .error c=>.error c
def Jg (b:Bg):Int:=match Qco b with
 | .ok _=>0
 | .error c=>c
def QQ (b:Bg):Tr:=match Qco b with
 | .ok t=>t
 | .error _=>Tr.zero
theorem QsQ {b:Bg} {c:Int} (h:ZL b=.error c):c≠0:=by
 unfold ZL at h
 split at h
 ·injection h;omega
 ·split at h
  ·injection h;omega
  ·split at h
   ·injection h;omega
   ·split at h
    ·injection h;omega
    ·cases h
theorem Qti: Qx 184 3:=⟨⟨_,underlying184,rfl⟩,by kernel_rfl⟩
theorem Qpy {b f c:Nat} (h:Bytes w N (.slice (some ⟨b,f,none⟩) n c) l) (j:b≠g) (O:JJ g w w'):Bytes w' N (.slice (some ⟨b,f,none⟩) n c) l:=by
 rcases h with ⟨h,-⟩ | ⟨a,e,h,rfl⟩ | ⟨b',m,e,h,hc,hh⟩
 ·injection h with h;cases h
 ·exact .inr (.inl ⟨a,e,h,rfl⟩)
 ·injection h with h1 h2 h3
  obtain ⟨rfl,rfl⟩:b=b'∧f=m:=by simpa using h1
  subst h3;refine .inr (.inr ⟨b,f,c,by rw [h2],hc,fun i hi=>⟨(hh i hi).1,?_⟩⟩)
  rw [← (hh i hi).2];simp only [World.cell?];rw [O.same b j]
theorem Qtm (s:ByteArray) (w:World):Calls prog 122 #[.string s] w fun e w'=>Bd w w'∧∃ o n c,e=.returned (.agg #[Bb 2,.int .u64 0,.slice o n c])∧Bytes w' w'.heap.size (.slice o n c) (Yo s):=by
 have HC:=hid QfE;have HT:=hid Qil;have z:=hid Qev
 go_in
 go_upto_region 1 with fail
 refine JQ ?_;intro w0 F hs;have q:=HC.out w0 s;generalize C:Lib.bytesWorld w0 5 s=w1 at *;have j:=z.out w0 s;have m:=HT.out w0 s;rw [C] at j m;have F1:=F.go j;have E:=hid m;have HB1:=hid j.size;have G:=hid (show w.heap.size<w0.heap.size from hs);generalize grownCap w0 s.size 0 5=A at *;generalize s.size=sn at *;clear C j m F HC HT z hs;obtain ⟨c0,c1,c2,z0,z1,z2⟩:=F1.r0.three;have F2:=((F1.set1 0 0 (Bb 2) rfl).set1 0 1 (.int .u64 0) rfl).set1 0 2 (.slice (some ⟨w0.heap.size,0,none⟩) sn A) rfl;have D:=hid F2;clear F2 F1;go_wp2;have F2:=D.out;refine Qfe results122 rfl F2.r0 Qti rfl ⟨F2.b,_,_,_,rfl,?_⟩;have O:=(((JJ.refl w.heap.size w1).cell 0 (Bb 2)).cell 1 (.int .u64 0)).cell 2 (.slice (some ⟨w0.heap.size,0,none⟩) sn A);exact (Qpy E.out (Nat.ne_of_gt G.out) O).mono (Ds O.size.symm)
theorem Qg3 (t:Tr) (w:World) (ht:t.fits):Calls prog 91 #[.agg #[.string t.denom,.int .u64 (t.amount:Int),.string t.sender,.string t.reader]] w fun e w'=>Bd w w'∧∃ v,e=.returned v∧Bytes w' w'.heap.size v (QF t):=by
 have HT:=hid (fun s W=>(Qtm s W).mono (R':=fun e W'=>∃ v,e=.returned v∧Bd W W'∧PcB (Yo s) v W') (by rintro e W' ⟨hb,o,n,c,rfl,h⟩;exact ⟨_,rfl,hb,o,n,c,rfl,h⟩))
 have D:=hid (show ∀ v W,JF W W.heap.size v (Qj4 t)→Calls prog 121 #[v] W fun e W'=>∃ x,e=.returned x∧Bd W W'∧WrB (QF t) x W' from fun v W hp=>by
  refine (QdC (Qj4 t) v W.heap.size W hp (Bj _) (by simp [Qj4]) (by
   intro p hp;obtain ⟨h1,h2,h3,h4⟩:=ht;simp [Qj4] at hp
   rcases hp with rfl | rfl | rfl | rfl
   ·exact ⟨by show 0<18446744073709551616;decide,by rw [QV];exact h1⟩
   ·exact ⟨h2,by simp⟩
   ·exact ⟨by show 0<18446744073709551616;decide,by rw [QV];exact h3⟩
   ·exact ⟨by show 0<18446744073709551616;decide,by rw [QV];exact h4⟩)).mono ?_
  rintro e W' ⟨hb,⟨x,y,hx,rfl,ho⟩ | ⟨c,i,hx,rfl⟩⟩
  ·obtain ⟨o,k,rfl,-⟩:=ho.shape
   exact ⟨_,rfl,hb,o,_,k,0,0,rfl,by unfold QF;rw [hx];exact ho.bytes⟩
  ·exact ⟨_,rfl,hb,none,0,0,c,(i:Int),rfl,by unfold QF;rw [hx];exact .inl ⟨rfl,rfl⟩⟩)
 obtain ⟨d,a,s,r⟩:=t
 go_in
 go_upto_region 1 with fail
 refine JQ ?_;intro w0 F hs;have HF:=hid F;clear F hs;apply JT 19 (by kernel_rfl) (fun W hb=>(HF.out.go hb).r0.k4) (by kernel_rfl)
 ·intro σ;simp [Ql];exact rfl
 iterate 2 (apply RK.val rfl;· intro σ W hb hc ⟨hd,hu⟩;simp at hd hu;go_simp;exact rfl)
 apply RK.callG (PcB (Yo d)) (PcB.stay _) rfl
 ·intro σ W hb hc ⟨hd,hu⟩;simp at hd hu;exact ⟨_,_,by go_simp <;> first | exact rfl | exact ⟨rfl,rfl⟩,HT.out d W⟩
 iterate 5 (apply RK.val rfl;· intro σ W hb hc ⟨hd,hu⟩;simp at hd hu;go_simp;exact rfl)
 apply RK.callG (PcB (Yo s)) (PcB.stay _) rfl
 ·intro σ W hb hc ⟨hd,hu⟩;simp at hd hu;exact ⟨_,_,by go_simp <;> first | exact rfl | exact ⟨rfl,rfl⟩,HT.out s W⟩
 iterate 2 (apply RK.val rfl;· intro σ W hb hc ⟨hd,hu⟩;simp at hd hu;go_simp;exact rfl)
 apply RK.callG (PcB (Yo r)) (PcB.stay _) rfl
 ·intro σ W hb hc ⟨hd,hu⟩;simp at hd hu;exact ⟨_,_,by go_simp <;> first | exact rfl | exact ⟨rfl,rfl⟩,HT.out r W⟩
 apply RK.new (Qkc (Qj4 ⟨d,a,s,r⟩)) (Qkc.stay _) rfl
 ·intro σ W hb hc ⟨hd,hu⟩;simp at hd hu
  obtain ⟨⟨o1,n1,c1,e1,h1⟩,e2,⟨o3,n3,c3,e3,h3⟩,⟨o4,n4,c4,e4,h4⟩⟩:=hd
  have HH:=hid (Qep W 184 [(⟨2,0,Yo d⟩,.slice o1 n1 c1),(⟨1,a,[]⟩,Bc),(⟨2,0,Yo s⟩,.slice o3 n3 c3),(⟨2,0,Yo r⟩,.slice o4 n4 c4)] (by
   intro q hq;simp at hq
   rcases hq with rfl | rfl | rfl | rfl
   ·exact h1
   ·exact .inl ⟨rfl,rfl⟩
   ·exact h3
   ·exact h4))
  clear h1 h3 h4;exact ⟨_,_,by go_simp <;> first | exact rfl | exact ⟨rfl,rfl⟩,(Bi _ _).alloc (Bj _) _,HH.out⟩
 apply RK.callG (WrB (QF ⟨d,a,s,r⟩)) (WrB.stay _) rfl
 ·intro σ W hb hc ⟨hd,hu⟩;simp at hd hu
  have HH:=hid (D.out (σ 12) W hd.1);clear hd;exact ⟨_,_,by go_simp <;> first | exact rfl | exact ⟨rfl,rfl⟩,HH.out⟩
 apply RK.new (WrB (QF ⟨d,a,s,r⟩)) (WrB.stay _) rfl
 ·intro σ W hb hc ⟨hd,hu⟩;simp at hd hu
  have HH:=hid hd;clear hd;exact ⟨σ 13,W,by go_simp,Bi _ _,HH.out⟩
 apply RK.new (ByB (QF ⟨d,a,s,r⟩)) (ByB.stay _) rfl
 ·intro σ W hb hc ⟨hd,hu⟩;simp at hd hu
  obtain ⟨o,n,k,c,i,e,h⟩:=hd;have HH:=hid h;clear h;exact ⟨_,W,by go_simp <;> exact rfl,Bi _ _,o,n,k,rfl,HH.out⟩
 apply RK.new FaB FaB.stay rfl
 ·intro σ W hb hc ⟨hd,hu⟩;simp at hd hu
  obtain ⟨o,n,k,c,i,e,h⟩:=hd;clear h;exact ⟨_,W,by go_simp <;> exact rfl,Bi _ _,c,i,rfl⟩
 apply RK.new (Qlj w.heap.size) (Qlj.stay _) rfl
 ·intro σ W hb hc ⟨hd,hu⟩;simp at hd hu
  have L:=(HF.out.go hb).b.size;have HH:=hid (Row.new W 180 [Bb 0,Bb 0]);exact ⟨_,_,by go_simp <;> first | exact rfl | exact ⟨rfl,rfl⟩,(Bi _ _).alloc (Bj _) _,W.heap.size,rfl,L,HH.out⟩
 apply RK.new (ByB (QF ⟨d,a,s,r⟩)) (ByB.stay _) rfl
 ·intro σ W hb hc ⟨hd,hu⟩;simp at hd hu
  obtain ⟨o,n,k,e,h⟩:=hd.1;have HH:=hid h;clear h;exact ⟨_,W,by go_simp <;> exact rfl,Bi _ _,o,n,k,rfl,HH.out⟩
 intro σ W hb _;simp only [JE,Bv,By,Nat.reduceAdd];intro hF;obtain ⟨-,-,-,-,-,-,-,-,-,-,-,-,-,-,-,-,⟨c,i,E⟩,⟨k,G,hk,j⟩,⟨o,n,cc,I,m⟩,-⟩:=hF;have z:=hid (HF.out.go hb).b;have C:=hid j;have A:=hid m;obtain ⟨z0,z1,z2,z3⟩:=j.two;clear hb j m;simp only [BU,BS,E,G,I];go_wp2;go_ret;have O:=((JJ.refl k W).cell 0 (Bb c)).cell 1 (Bb i);exact ⟨O.down z.out hk,_,rfl,(A.out.only C.out rfl O.same).mono (Ds O.size.symm)⟩
theorem Z8: Qx 49 4:=⟨⟨_,underlying49,rfl⟩,by kernel_rfl⟩
def QbE (m:List Pc) (ks:List Int):Bool:=decide (m.map (·.k)=ks)
theorem Qr7 (p:Pc) (k:Int) (vb:Value) (w:World):Calls prog 195 #[.agg #[Bb p.k,.int .u64 (p.n:Int),vb],Bb k] w fun e w'=>e=.returned (.bool (p.k == k))∧Bd w w':=by
 go_in
 go_upto_region 1 with fail
 refine JQ ?_;intro w0 F hs;obtain ⟨k0,k1,k2⟩:=F.r0.k3;have HB:=hid F.b;clear F hs;go_wp2;go_ret;exact ⟨rfl,HB.out⟩
theorem Qub (m:List Pc) (ks:List Int) (sv:Value) (N g n:Nat) (w:World) (lb:Array Value) (aC:lb=#[]) (hN:N≤w.heap.size) (hm:JF w N sv m) (hr:Row w g 3 (ks.map (Value.int .i64))) (hn:ks.length=n) (hlen:m.length≤1000) :
  Calls prog 194 #[sv,.slice (some ⟨g,0,none⟩) n n,.func (.func 195) #[] lb] w fun e w'=>e=.returned (.bool (QbE m ks))∧Bd w w':=by
 subst aC;obtain ⟨oa,ca,rfl,-⟩:=hm.shape;have HM:=hid hm;have aB:=hr.lt;have HR:=hid hr;have HK:=hid Qr7;have A:=hid (show QbE m ks=decide (m.map (·.k)=ks) from rfl);clear hm hr;generalize hl:m.length=l at *;have C:=hid hl;have HN:=hid hn;clear hl hn
 by_cases S:l=n
 ·subst S
  go_in
  go_wp2_with fail
  go_loopw [17] (fun E wr=>∃ k:Nat,k≤l∧E=Bb k∧Hid (Bd w wr)∧Hid ((m.map (·.k)).take k=ks.take k)) (fun E _=>l-(intOf E).toNat)
  case atStart=>exact ⟨0,BF _,rfl,Bi _ _,rfl⟩
  case round =>
   obtain ⟨k,hk,rfl,HW,HT⟩:=hrel
   by_cases O:k<l
   ·obtain ⟨p,hp⟩:∃ p,m[k]?=some p:=⟨m[k]'(by rw [C.out];exact O),Bk _⟩
    obtain ⟨q,hq⟩:∃ q,ks[k]?=some q:=⟨ks[k]'(by rw [HN.out];exact O),Bk _⟩
    obtain ⟨b,f,rfl,L⟩:=HM.out.some (by omega)
    obtain ⟨hbN,vb,c0,c1,c2,Y⟩:=L k p hp;obtain ⟨ov,cv,rfl,-⟩:=Y.shape;clear Y;generalize p.b.length=pl at *;replace c0:=(HW.out.cell (p:=⟨b,f+k*3,none⟩) (by show b<_;omega)).trans c0
    replace c1:=(HW.out.cell (p:=⟨b,f+k*3+1,none⟩) (by show b<_;omega)).trans c1
    replace c2:=(HW.out.cell (p:=⟨b,f+k*3+2,none⟩) (by show b<_;omega)).trans c2
    have d0:wr.cell? ⟨g,k,none⟩=some (Bb q):=by rw [HW.out.cell (p:=⟨g,k,none⟩) aB,HR.out.cell,Bs,hq];rfl
    have hlt':(k:Int)<(l:Int):=by omega
    have aD:=HW.out.size;have M:g<wr.heap.size:=by omega
    have j:=hid (And.intro hp hq);clear hp hq L
    go_upto_region 6 with fail
    refine QtX ?_;intro w1 T D;have aA:=hid (HW.out.trans (D.mono aD));obtain ⟨k0,k1,k2⟩:=T.k3;replace d0:=(D.cell (p:=⟨g,k,none⟩) M).trans d0;clear c0 c1 c2 T D M
    go_wp2_with fail
    refine (HK.out p q _ w1).mono ?_;rintro e w2 ⟨rfl,I⟩;have G:=hgo aA I;clear I k0 k1 k2 d0
    by_cases z:p.k=q
    ·have e1:(p.k == q)=true:=by simpa using z
     rw [e1]
     go_wp2_with fail
     refine ⟨⟨k+1,by omega,by go_num,G.out,?_⟩,by simp [intOf];omega⟩
     rw [Dh,Dh,HT.out,Bs,j.out.1,j.out.2,Option.map_some,z];exact hid rfl
    ·have e1:(p.k == q)=false:=by simpa using z
     rw [e1];go_wp2;go_ret;refine ⟨?_,G.out⟩;rw [A.out,BD fun h=>z ?_]
     ·rfl
     ·have:=Bl (fun x=>x[k]?) h
      simp only [Bs,j.out.1,j.out.2,Option.map_some] at this;exact Bu this
   ·obtain rfl:k=l:=by omega
    have hlt':decide ((k:Int)<(k:Int))=false:=by simp
    go_wp2;go_ret;refine ⟨?_,HW.out⟩;have:=HT.out;rw [BA (by rw [Bp,C.out];exact Bj _),BA (by rw [HN.out];exact Bj _)] at this
    rw [A.out,BB this];rfl
 ·have e1:((l:Int) != (n:Int))=true:=by simp;omega
  have HF:=hid (show QbE m ks=false by rw [A.out,BD fun h=>S (by rw [← C.out,← HN.out,← h,Bp])])
  go_in
  go_wp2;go_ret;exact ⟨by rw [HF.out];rfl,Bi _ _⟩
theorem Qps (m:List Pc) (ks:List Int) (sv:Value) (N g n:Nat) (w:World) (hN:N≤w.heap.size) (hm:JF w N sv m) (hr:Row w g 3 (ks.map (Value.int .i64))) (hn:ks.length=n) (b:m.length≤1000) :
  Calls prog 150 #[sv,.slice (some ⟨g,0,none⟩) n n] w fun e w'=>e=.returned (.bool (QbE m ks))∧Bd w w':=by
 obtain ⟨oa,ca,rfl,-⟩:=hm.shape;have HC:=hid (Qub m ks _ N g n w #[] rfl hN hm hr hn b);clear hm hr hn b;generalize m.length=l at *
 go_in
 go_wp2_with fail
 refine HC.out.mono ?_;rintro e w1 ⟨rfl,hb⟩;have HB:=hid hb;clear hb;go_wp2;go_ret;exact ⟨rfl,HB.out⟩
end Go.Proofs.YtnedafiokmjkkaaGreatDoor
