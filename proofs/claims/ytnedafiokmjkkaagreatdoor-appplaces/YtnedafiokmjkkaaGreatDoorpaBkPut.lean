/- Lists of purses put together. -/
import Derived.Test.YtnedafiokmjkkaaGreatDoorpaStSlots
import Derived.Shelf.Strconv.AppendIntPublic10
import Derived.Shelf.Small.Strs
import Derived.Ground.NamesProg
namespace Go.Proofs.YtnedafiokmjkkaaGreatDoor
open Tryz
set_option maxRecDepth 1000000
set_option maxHeartbeats 8000000
open Go.RowKit
def Qgu (f:FuncId) (t:TypeId) (k:Nat) (fid:FuncId):Prop:=Qv t k→∀ (Z:Nat→Int) (rs:List (List Value)) (sv:Value) (ts:List Value) (N:Nat) (w:World),N≤w.heap.size→Q9 w N sv k rs→(∀ r∈rs,r.length=k)→ts.length=k→rs.length≤1000000 →
 (∀ a b,a≤b→b<rs.length→Z b<0→Z a<0)→(∀ h r W,rs[h]?=some r→Bd w W→Calls prog fid #[.agg r.toArray,.agg ts.toArray] W fun e W'=>e=.returned (Bb (Z h))∧Bd W W') →
 Calls prog f #[sv,.agg ts.toArray,.func (.func fid) #[] #[]] w fun e w'=>Bd w w'∧∃ i fd,e=.returned (.tuple #[Bb ((i:Nat):Int),.bool fd])∧i≤rs.length∧(∀ j,j<i→Z j<0)∧(∀ j,i≤j→j<rs.length→0≤Z j)∧(fd=true↔i<rs.length∧Z i=0)
theorem Qgc:Qgu 196 90 3 26∧Qgu 231 70 3 30:=by
 refine ⟨?_,?_⟩
 all_goals
  intro hS Z rs sv ts N w hN hl hk S hlen j m;obtain ⟨oa,ca,rfl,hca⟩:=hl.shape;have HL:=hid hl;have HM:=hid j;have HC:=hid m;have HK:=hid hk;clear hl j m hk;generalize hn:rs.length=n at *;have HN:=hid hn;clear hn;have HR:=hid (fun i (hi:i<n)=>HL.out.at HK.out hN HN.out hi)
  have HT:=hid (show Qv _ ts.length by rw [S];exact hS)
  go_in
  go_upto_region 1 with fail
  refine JN ?_;intro w0 F hs;have HF:=hid F;clear F
  go_wp2_with fail
  go_loopw [9,10] (fun s9 E wr=>∃ lo hi:Nat,s9=Bb lo∧E=Bb hi∧lo≤hi∧hi≤n∧Hid (Bd w0 wr∧(∀ t,t<lo→Z t<0)∧∀ t,hi≤t→t<n→0≤Z t)) (fun s9 E _=>(intOf E).toNat-(intOf s9).toNat)
  case atStart=>exact ⟨0,n,rfl,rfl,BJ _,Bj _,hid ⟨Bi _ _,fun t ht=>absurd ht (Nat.not_lt_zero _),fun t h1 h2=>by omega⟩⟩
  case round =>
   obtain ⟨lo,hi,rfl,rfl,hlh,z,HB⟩:=hrel;have d:=hid (HF.out.go HB.out.1)
   by_cases hlt:lo<hi
   ·have I:(lo+hi) / 2<n:=by omega
    have hh1:((lo:Int)+(hi:Int)) / 2=(((lo+hi) / 2:Nat):Int):=by omega
    have hlh2:lo≤(lo+hi) / 2∧(lo+hi) / 2<hi:=by omega
    generalize (lo+hi) / 2=h at *;obtain ⟨b,o,r,rfl,hr,A,hm⟩:=HR.out h I;have HX:=hid hm;have q:=hid (HC.out h r · hr)
    have HS:=hid (show Qv _ r.length by rw [A];exact hS)
    have hlt':(lo:Int)<(hi:Int):=by omega
    have HZ:=hid (fun t=>HM.out t h)
    have M:=hid (fun t (h1:h≤t) h2 h3=>HM.out h t h1 h2 h3)
    generalize Z h=cc at *;clear hm hr
    go_upto_region 5 with fail
    apply QD (C:=fun _=>True) (by kernel_rfl) (fun _ _=>trivial) (by kernel_rfl)
    ·intro σ;simp [Qj];exact rfl
    iterate 4 (apply RK.val rfl;· intro σ W hb hc ⟨hd,hu⟩;simp at hd hu;go_simp;exact rfl)
    apply RK.val rfl;· intro σ W hb hc ⟨hd,hu⟩;simp at hd;exact Jo rfl hd (HX.out W (d.out.go hb).b) HS.out
    apply RK.val rfl;· intro σ W hb hc ⟨hd,hu⟩;exact Jo rfl rfl (d.out.go hb).r0.range HT.out
    apply RK.callV rfl
    ·intro σ W hb hc hd;simp [Has] at hd;go_simp;exact ⟨rfl,rfl⟩
    ·intro W hb _;exact q.out W (d.out.go hb).b
    apply RK.val rfl;· intro σ W hb hc hd;simp [Has] at hd;go_simp;exact rfl
    intro σ W hb _ hF;simp [Jm] at hF;go_simp;clear hF;have e:=hid (HB.out.1.trans (hb.mono HB.out.1.size));clear hb
    by_cases D:cc<0
    ·have hyx':decide (cc<0)=true:=by simpa using D
     go_wp2_with fail
     exact ⟨⟨h+1,hi,by go_num,rfl,by omega,z,hid ⟨e.out,fun t ht=>HZ.out t (by omega) I D,HB.out.2.2⟩⟩,by simp [intOf];omega⟩
    ·have hyx':decide (cc<0)=false:=by simpa using D
     go_wp2_with fail
     exact ⟨⟨lo,h,rfl,by go_num,by omega,by omega,hid ⟨e.out,HB.out.2.1,fun t h1 h2=>DP.1 fun h3=>by have:=M.out t h1 h2 h3;omega⟩⟩,by simp [intOf];omega⟩
   ·obtain rfl:hi=lo:=by omega
    have hge:decide ((hi:Int)<(hi:Int))=false:=by simp
    go_upto_region 8 with fail
    apply QD (C:=fun _=>True) (by kernel_rfl) (fun _ _=>trivial) (by kernel_rfl)
    ·intro σ;simp [Qj];exact rfl
    by_cases hn:hi<n
    ·obtain ⟨b,o,r,rfl,hr,A,hm⟩:=HR.out hi hn
     have HX:=hid hm;have q:=hid (HC.out hi r · hr)
     have HS:=hid (show Qv _ r.length by rw [A];exact hS)
     have hlt':(hi:Int)<(n:Int):=by omega
     have G:decide ((hi:Int)<(n:Int))=true:=by simpa using hlt'
     generalize L:Z hi=cc at *;have O:=hid L;clear hm hr L
     iterate 5 (apply RK.val rfl;· intro σ W hb hc hd;simp [Has] at hd;go_simp;exact rfl)
     iterate 4 (apply RK.valW;· intro σ W hb hc hd;simp [Has] at hd;refine ⟨by simp [Region.wanted,yielded, *],?_⟩;go_simp;exact rfl)
     apply RK.valW;· intro σ W hb hc hd;simp [Has] at hd;exact ⟨by simp [Region.wanted,yielded, *],Jo rfl (by first | exact hd.1 | exact hd.2.1 | exact hd.1.2 | exact hd.1.1) (HX.out W (d.out.go hb).b) HS.out⟩
     apply RK.valW;· intro σ W hb hc hd;simp [Has] at hd;exact ⟨by simp [Region.wanted,yielded, *],Jo rfl rfl (d.out.go hb).r0.range HT.out⟩
     apply RK.callW
     ·intro σ W hb hc hd;simp [Has] at hd;refine ⟨by simp [Region.wanted,yielded, *],?_⟩;go_simp;exact ⟨rfl,rfl⟩
     ·intro W hb _;exact q.out W (d.out.go hb).b
     apply RK.valW
     ·intro σ W hb hc hd;simp [Has] at hd;refine ⟨by simp [Region.wanted,yielded, *],?_⟩;go_simp;exact rfl
     iterate 3 (apply RK.val rfl;· intro σ W hb hc hd;simp [Has] at hd;go_simp;exact rfl)
     intro σ W hb _ hF;simp [Jm] at hF;go_simp;clear hF;have e:=hid (d.out.go hb).b;clear hb;go_wp2;go_ret2;exact ⟨e.out,hi,_,rfl,z,HB.out.2.1,HB.out.2.2,by rw [O.out];simp [hn]⟩
    ·have G:decide ((hi:Int)<(n:Int))=false:=by simp;omega
     iterate 5 (apply RK.val rfl;· intro σ W hb hc hd;simp [Has] at hd;go_simp;exact rfl)
     iterate 8 (apply RK.pass;· intro σ W hb hc hd;simp [Has] at hd;simp [Region.wanted,yielded, *])
     iterate 3 (apply RK.val rfl;· intro σ W hb hc hd;simp [Has] at hd;go_simp;exact rfl)
     intro σ W hb _ hF;simp [Jm] at hF;go_simp;clear hF;have e:=hid (d.out.go hb).b;clear hb;go_wp2;go_ret2;exact ⟨e.out,hi,_,rfl,z,HB.out.2.1,HB.out.2.2,by simp [hn]⟩
theorem Qgu.list {f:FuncId} {t:TypeId} {k:Nat} {d:FuncId} (h:Qgu f t k d) (hS:Qv t k) {α:Type} (c:α→Int) (l:List α) (rs:List (List Value)) {sv:Value} (ts:List Value) {N:Nat} {w:World} (hN:N≤w.heap.size) (hl:Q9 w N sv k rs) (hk:∀ r∈rs,r.length=k) (j:ts.length=k) (he:rs.length=l.length) (hlen:l.length≤1000000) (hs:l.Pairwise fun a b=>c b<0→c a<0)
  (hc:∀ (i:Nat) r p W,rs[i]?=some r→l[i]?=some p→Bd w W→Calls prog d #[.agg r.toArray,.agg ts.toArray] W fun e W'=>e=.returned (Bb (c p))∧Bd W W') :
  Calls prog f #[sv,.agg ts.toArray,.func (.func d) #[] #[]] w fun e w'=>Bd w w'∧∃ i fd,AtL c l i fd∧e=.returned (.tuple #[Bb (i:Nat),.bool fd]):=by
 refine (h hS (QkC c l) rs sv ts N w hN hl hk j (by omega) (by rw [he];exact QjA hs) fun i r W hr hb=>?_).mono ?_
 ·have hp:=Bk (l:=l) (i:=i) (by rw [← he];exact (Bm.1 hr).1)
  rw [Qbn hp];exact hc i r _ W hr hp hb
 ·rintro e w' ⟨hb,i,fd,rfl,h1,h2,h3,h4⟩
  rw [he] at h1 h3 h4;exact ⟨hb,i,fd,QqX h1 h2 h3 h4,rfl⟩
theorem Qi1:∀ (a:List UInt8),Op.bytesLess a a=false
 | []=>rfl
 | x :: a=>by unfold Op.bytesLess;rw [Qi1 a];simp
theorem QfT:∀ (a b c:List UInt8),Op.bytesLess a b=true→Op.bytesLess b c=true→Op.bytesLess a c=true
 | a,[],_,h,_=>by cases a <;> simp [Op.bytesLess] at h
 | _,_ :: _,[],_,h=>by simp [Op.bytesLess] at h
 | [],_ :: _,_ :: _,_,_=>rfl
 | x :: a,y :: b,z :: c,h1,h2=>by
  unfold Op.bytesLess at *;simp only [DV,BX,BS,beq_iff_eq] at *
  rcases h1 with h1 | ⟨rfl,h1⟩
  ·rcases h2 with h2 | ⟨rfl,h2⟩
   ·exact .inl (UInt8.lt_trans h1 h2)
   ·exact .inl h1
  ·rcases h2 with h2 | ⟨rfl,h2⟩
   ·exact .inl h2
   ·exact .inr ⟨rfl,QfT a b c h1 h2⟩
theorem Qi2:∀ (a b:List UInt8),Op.bytesLess a b=true∨a=b∨Op.bytesLess b a=true
 | [],[]=>.inr (.inl rfl)
 | [],_ :: _=>.inl rfl
 | _ :: _,[]=>.inr (.inr rfl)
 | x :: a,y :: b=>by
  unfold Op.bytesLess;simp only [DV,BX,BS,beq_iff_eq]
  rcases Eh x.toNat y.toNat with h | h | h
  ·exact .inl (.inl h)
  ·have:x=y:=UInt8.toNat_inj.1 h
   subst this
   rcases Qi2 a b with h | rfl | h
   ·exact .inl (.inr ⟨rfl,h⟩)
   ·exact .inr (.inl rfl)
   ·exact .inr (.inr (.inr ⟨rfl,h⟩))
  ·exact .inr (.inr (.inl h))
theorem toList_inj {a b:ByteArray} (h:a.toList=b.toList):a=b:=by
 rw [ByteArray.toList_eq,ByteArray.toList_eq] at h;exact ByteArray.ext (Array.toList_inj.1 h)
theorem Yx (a b:Pu) (h1:a.owner=b.owner) (h2:a.denom=b.denom):QO a b=false:=by grind [QO,Qjt,Qi1]
theorem Yy {a b c:Pu} (h1:QO a b=true) (h2:QO b c=true):QO a c=true:=by grind [QO,Qjt,QfT]
theorem Qnp (a b:Pu):QO a b=true∨(a.owner=b.owner∧a.denom=b.denom)∨QO b a=true:=by grind [QO,Qjt,Qi2,toList_inj]
theorem QoD {a b:Pu} (h:QO a b=true):¬ (a.owner=b.owner∧a.denom=b.denom):=by grind [Yx]
theorem QrT {a b:Pu} (h:QO a b=true):QO b a=false:=by grind [QO,QoD,Yy]
def Qba (l:List Pu):Prop:=l.Pairwise fun a b=>QO a b=true
def isU (o d:ByteArray) (p:Pu):Bool:=decide (p.owner=o∧p.denom=d)
def Q8:List Pu→ByteArray→ByteArray→Nat
 | [],_,_=>0
 | p :: l,o,d=>(if isU o d p=true then p.amount else 0)+Q8 l o d
def JY:List Pu→ByteArray→Nat
 | [],_=>0
 | p :: l,d=>(if p.denom=d then p.amount else 0)+JY l d
def Zh (l:List Pu) (o d:ByteArray):List Pu:=l.filter fun p=>QO p ⟨o,d,0⟩
def Yu (l:List Pu) (o d:ByteArray):List Pu:=l.filter fun p=>QO ⟨o,d,0⟩ p
def Qc2 (o d:ByteArray) (n:Nat):List Pu:=if n=0 then [] else [⟨o,d,n⟩]
def QcB (l:List Pu) (o d:ByteArray) (n:Nat):List Pu:=Zh l o d ++ (Qc2 o d n ++ Yu l o d)
theorem QcI:∀ (a b:List Pu) (o d:ByteArray),Q8 (a ++ b) o d=Q8 a o d+Q8 b o d
 | [],b,o,d=>by simp [Q8]
 | p :: a,b,o,d=>by simp only [Bz,Q8,QcI a b];omega
theorem QbS:∀ (a b:List Pu) (d:ByteArray),JY (a ++ b) d=JY a d+JY b d
 | [],b,d=>by simp [JY]
 | p :: a,b,d=>by simp only [Bz,JY,QbS a b];omega
theorem QbU:∀ (l:List Pu) (o d:ByteArray),Q8 l o d≤JY l d
 | [],_,_=>Bj _
 | p :: l,o,d=>by
  have:=QbU l o d;simp only [Q8,JY,isU,BS]
  split
  ·simp_all
  ·omega
theorem Qdm:∀ (l:List Pu) (o d:ByteArray),(∀ p∈l,¬ (p.owner=o∧p.denom=d))→Q8 l o d=0
 | [],_,_,_=>rfl
 | p :: l,o,d,h=>by
  have h1:=h p (.head _);simp only [Q8,isU,BS];rw [if_neg h1,Qdm l o d fun q hq=>h q (.tail _ hq)]
theorem YV:∀ (l:List Pu) (o d:ByteArray),Qba l→l=Zh l o d ++ (l.filter (isU o d) ++ Yu l o d)∧((l.filter (isU o d)=[])∨∃ n,l.filter (isU o d)=[⟨o,d,n⟩]∧⟨o,d,n⟩∈l)
 | [],_,_,_=>⟨rfl,.inl rfl⟩
 | p :: l,o,d,h=>by
  obtain ⟨h1,h2⟩:=CN.1 h;obtain ⟨g1,g2⟩:=YV l o d h2;have b:QO ⟨o,d,0⟩ p=true→(∀ q∈l,QO ⟨o,d,0⟩ q=true):=fun hp q hq=>Yy hp (h1 q hq)
  rcases Qnp p ⟨o,d,0⟩ with hp | ⟨e1,e2⟩ | hp
  ·have n1:isU o d p=false:=by unfold isU;rw [decide_eq_false_iff_not];exact QoD hp
   have n2:QO ⟨o,d,0⟩ p=false:=QrT hp;unfold Zh Yu;simp only [D7,hp,n1,n2,if_true,DT,if_false];refine ⟨by rw [Bz];exact Bl _ g1,?_⟩
   rcases g2 with g2 | ⟨n,g2,g3⟩
   ·exact .inl g2
   ·exact .inr ⟨n,g2,.tail _ g3⟩
  ·have n1:isU o d p=true:=by unfold isU;rw [BS];exact ⟨e1,e2⟩
   have n2:QO p ⟨o,d,0⟩=false:=Yx _ _ e1 e2;have n3:QO ⟨o,d,0⟩ p=false:=Yx _ _ e1.symm e2.symm
   have hl:∀ q∈l,QO ⟨o,d,0⟩ q=true:=fun q hq=>by
    have:=h1 q hq;unfold QO at *;simp only at e1 e2 ⊢;rw [← e1,← e2];exact this
   have e3:l.filter (fun q=>QO q ⟨o,d,0⟩)=[]:=Cq.2 fun q hq hh=>by
    have:=Yy (hl q hq) hh;rw [Yx _ _ rfl rfl] at this
    cases this
   have e4:l.filter (isU o d)=[]:=Cq.2 fun q hq hh=>by
    unfold isU at hh;rw [BS] at hh;have:=hl q hq;rw [Yx _ _ hh.1.symm hh.2.symm] at this
    cases this
   have e5:l.filter (fun q=>QO ⟨o,d,0⟩ q)=l:=CT.2 hl
   unfold Zh Yu;simp only [D7,n1,n2,n3,if_true,DT,if_false];rw [e3,e4,e5];obtain ⟨po,pd,pn⟩:=p;obtain rfl:po=o:=e1;obtain rfl:pd=d:=e2;exact ⟨rfl,.inr ⟨pn,rfl,.head _⟩⟩
  ·have hl:=b hp
   have e3:(p :: l).filter (fun q=>QO q ⟨o,d,0⟩)=[]:=Cq.2 fun q hq hh=>by
    have:QO ⟨o,d,0⟩ q=true:=by
     rcases Bo.1 hq with rfl | hq
     ·exact hp
     ·exact hl q hq
    have:=Yy this hh;rw [Yx _ _ rfl rfl] at this
    cases this
   have e4:(p :: l).filter (isU o d)=[]:=Cq.2 fun q hq hh=>by
    have hq':QO ⟨o,d,0⟩ q=true:=by
     rcases Bo.1 hq with rfl | hq
     ·exact hp
     ·exact hl q hq
    unfold isU at hh;rw [BS] at hh;rw [Yx _ _ hh.1.symm hh.2.symm] at hq'
    cases hq'
   have e5:(p :: l).filter (fun q=>QO ⟨o,d,0⟩ q)=p :: l:=CT.2 fun q hq=>by
    rcases Bo.1 hq with rfl | hq
    ·exact hp
    ·exact hl q hq
   unfold Zh Yu;rw [e3,e4,e5];exact ⟨rfl,.inl rfl⟩
theorem QiX (l:List Pu) (o d:ByteArray):Q8 (Zh l o d) o d=0:=by grind [Zh,Qdm,Yx]
theorem QgN (l:List Pu) (o d:ByteArray):Q8 (Yu l o d) o d=0:=by grind [Yu,Qdm,Yx]
theorem Qev {l:List Pu} (h:Qba l) (o d:ByteArray):Q8 l o d=Q8 (l.filter (isU o d)) o d:=by
 have e:=Bl (fun x=>Q8 x o d) (YV l o d h).1
 simp only [QcI,QiX,QgN] at e;omega
theorem Qtu (o d:ByteArray) (n:Nat) (o' d':ByteArray):Q8 (Qc2 o d n) o' d'=if o'=o∧d'=d then n else 0:=by grind [Q8,Qc2,isU]
theorem Qon {l:List Pu} (h:Qba l) (o d:ByteArray) (n:Nat) (o' d':ByteArray):Q8 (QcB l o d n) o' d'=if o'=o∧d'=d then n else Q8 l o' d':=by
 unfold QcB;rw [QcI,QcI,Qtu]
 split
 ·rename_i e
  obtain ⟨rfl,rfl⟩:=e;rw [QiX,QgN];omega
 ·rename_i e
  have hs:=Bl (fun x=>Q8 x o' d') (YV l o d h).1
  simp only [QcI] at hs;rw [hs,Qdm (l.filter (isU o d)) o' d' fun p hp hh=>?_]
  have:=(Cf.1 hp).2;unfold isU at this;rw [BS] at this;exact e ⟨hh.1.symm.trans this.1,hh.2.symm.trans this.2⟩
theorem QoN {l:List Pu} (h:Qba l) (o d:ByteArray) (n:Nat) (d':ByteArray):JY (QcB l o d n) d'+(if d'=d then Q8 l o d else 0)=JY l d'+(if d'=d then n else 0):=by
 obtain ⟨hs,hm⟩:=YV l o d h;have e1:=Bl (fun x=>JY x d') hs
 have e2:=Qev h o d;simp only [QbS] at e1;unfold QcB;rw [QbS,QbS,e1]
 have e3:JY (Qc2 o d n) d'=if d'=d then n else 0:=by
  unfold Qc2
  split
  ·rename_i h;subst h;simp [JY]
  ·simp only [JY]
   split
   ·grind
   ·grind
 have e4:JY (l.filter (isU o d)) d'=if d'=d then Q8 l o d else 0:=by
  rw [e2]
  rcases hm with hm | ⟨k,hm,-⟩
  ·rw [hm];simp [JY,Q8]
  ·rw [hm]
   simp only [JY,Q8,isU]
   by_cases e:d'=d
   ·grind
   ·grind
 omega
theorem QoC {l:List Pu} (h:Qba l) (ha:∀ p∈l,0<p.amount) (o d:ByteArray) (n:Nat):(QcB l o d n).length+(if Q8 l o d=0 then 0 else 1)=l.length+(if n=0 then 0 else 1):=by
 obtain ⟨hs,hm⟩:=YV l o d h;have e1:=Bl List.length hs;have e2:=Qev h o d;simp only [Bs] at e1;unfold QcB Qc2;rw [Bs,Bs,e1]
 have e4:(l.filter (isU o d)).length=if Q8 l o d=0 then 0 else 1:=by
  rw [e2]
  rcases hm with hm | ⟨k,hm,hk⟩
  ·rw [hm];simp [Q8]
  ·rw [hm]
   have:=ha _ hk;simp only [Q8,isU];simp at this ⊢;omega
 have e5:(if n=0 then [] else [(⟨o,d,n⟩:Pu)]).length=if n=0 then 0 else 1:=by split <;> rfl
 omega
theorem QsT {l:List Pu} (h:Qba l) (o d:ByteArray) (n:Nat):Qba (QcB l o d n):=by grind [Qba,QcB,Yu,QO,Zh,Qc2,Yy]
structure Q1 (l:List Pu):Prop where
 sort:Qba l
 ok:∀ p∈l,QH p.owner=true∧QH p.denom=true∧0<p.amount∧p.amount<18446744073709551616
theorem Q1.nil:Q1 []:=⟨List.Pairwise.nil,fun _ h=>(by cases h)⟩
theorem Q1.put {l:List Pu} (h:Q1 l) {o d:ByteArray} {n:Nat} (ho:QH o=true) (hd:QH d=true) (hn:n<18446744073709551616):Q1 (QcB l o d n):=by
 refine ⟨QsT h.sort _ _ _,fun p hp=>?_⟩
 rcases By.1 hp with hp | hp
 ·exact h.ok p (Cf.1 hp).1
 rcases By.1 hp with hp | hp
 ·unfold Qc2 at hp
  split at hp
  ·grind
  ·grind
 ·exact h.ok p (Cf.1 hp).1
theorem QiY {l:List Pu} (h:Q1 l) (o d:ByteArray):Q8 l o d<18446744073709551616:=by
 rw [Qev h.sort]
 rcases (YV l o d h.sort).2 with hm | ⟨k,hm,hk⟩
 ·rw [hm];simp [Q8]
 ·rw [hm]
  have:=(h.ok _ hk).2.2.2;simp [Q8,isU];simpa using this
theorem Qij {p:Pu}:Qco p=0↔QH p.owner=true∧QH p.denom=true∧0<p.amount:=by grind [Qco]
theorem QoT {α:Type} {f:α→Int} {lt:α→α→Bool}:∀ (l:List α) (p:Option α),(∀ x∈l,f x=0)→(∀ a,p=some a→∀ x∈l,lt a x=true)→l.Pairwise (fun a b=>lt a b=true)→Qde f lt p l=0
 | [],_,_,_,_=>rfl
 | x :: l,p,h1,h2,h3=>by
  obtain ⟨g1,g2⟩:=CN.1 h3;rw [Qde,if_neg (by simp [h1 x (.head _)]),if_neg ?_]
  ·exact QoT l (some x) (fun y hy=>h1 y (.tail _ hy)) (fun a ha y hy=>by obtain rfl:=Bu ha;exact g1 y hy) g2
  ·cases p with
   | none=>simp [QaB]
   | some a=>simp [QaB,h2 a rfl x (.head _)]
def QkL (l:List Pu):Bool:=decide (l.length≤60) && decide (Qbr l=0)
theorem QhQ {l:List Pu} (hf:∀ p∈l,p.amount<18446744073709551616):QkL l=true↔l.length≤60∧Q1 l:=by
 unfold QkL;rw [BX,BS,BS];refine and_congr Iff.rfl ?_
 constructor
 ·intro h
  obtain ⟨h1,-,h3⟩:=QkT (f:=Qco) (lt:=QO) (fun _ _ _ h1 h2=>Yy h1 h2) l none h
  exact ⟨h3,fun p hp=>by obtain ⟨a,b,c⟩:=Qij.1 (h1 p hp);exact ⟨a,b,c,hf p hp⟩⟩
 ·intro h
  exact QoT l none (fun p hp=>by obtain ⟨a,b,c,-⟩:=h.ok p hp;exact Qij.2 ⟨a,b,c⟩) (fun _ h=>(by cases h)) h.sort
def Qbl (l:List Pu) (o d:ByteArray) (n:Nat):Int:=if (QH o && QH d)=false then 4 else if n=0 then 0 else if 18446744073709551616≤JY l d+n then 3 else if 60≤l.length∧Q8 l o d=0 then 5 else 0
def Qaw (l:List Pu) (o d:ByteArray) (n:Nat):List Pu:=if Qbl l o d n≠0 then [] else if n=0 then l else QcB l o d (Q8 l o d+n)
def Qae (l:List Pu) (o d:ByteArray) (n:Nat):Int:=if (QH o && QH d)=false then 4 else if Q8 l o d<n then 8 else 0
def Qbc (l:List Pu) (o d:ByteArray) (n:Nat):List Pu:=if Qae l o d n≠0 then [] else QcB l o d (Q8 l o d-n)
def Qan (l:List Pu) (a b d:ByteArray) (n:Nat):Int:=if Qae l a d n≠0 then Qae l a d n else Qbl (Qbc l a d n) b d n
def J6 (l:List Pu) (a b d:ByteArray) (n:Nat):List Pu:=if Qae l a d n≠0 then [] else Qaw (Qbc l a d n) b d n
structure QuQ (l:List Pu) (o d:ByteArray) (n:Nat) (m:List Pu):Prop where
 right:Q1 m
 amt:∀ o' d',Q8 m o' d'=Q8 l o' d'+if o'=o∧d'=d then n else 0
 sup:∀ d',JY m d'=JY l d'+if d'=d then n else 0
 len:m.length≤60
theorem QeT {l:List Pu} (h:Q1 l) (hl:l.length≤60) {o d:ByteArray} {n:Nat} (hn:n<18446744073709551616) (he:Qbl l o d n=0):QuQ l o d n (Qaw l o d n)∧(0<n→JY l d+n<18446744073709551616):=by
 unfold Qaw;rw [if_neg (by omega)]
 unfold Qbl at he
 by_cases hw:(QH o && QH d)=false
 ·simp_all
 have hw':QH o=true∧QH d=true:=by simp_all
 by_cases h0:n=0
 ·subst h0
  exact ⟨⟨h,fun _ _=>by simp,fun _=>by simp,hl⟩,fun h=>by omega⟩
 rw [if_neg h0] at he ⊢
 by_cases h1:18446744073709551616≤JY l d+n
 ·omega
 have ha:=QbU l o d;refine ⟨⟨h.put hw'.1 hw'.2 (by omega),fun o' d'=>?_,fun d'=>?_,?_⟩,fun _=>by omega⟩
 ·rw [Qon h.sort]
  split
  ·simp_all
  ·rfl
 ·have:=QoN h.sort o d (Q8 l o d+n) d'
  split at this
  ·grind
  ·simp_all
 ·have:=QoC h.sort (fun p hp=>(h.ok p hp).2.2.1) o d (Q8 l o d+n)
  by_cases h2:60≤l.length∧Q8 l o d=0
  ·omega
  ·grind
structure Qvi (l:List Pu) (o d:ByteArray) (n:Nat) (m:List Pu):Prop where
 has:n≤Q8 l o d
 right:Q1 m
 amt:∀ o' d',Q8 m o' d'=Q8 l o' d'-if o'=o∧d'=d then n else 0
 sup:∀ d',JY m d'=JY l d'-if d'=d then n else 0
 len:m.length≤l.length
theorem Qgz {l:List Pu} (h:Q1 l) {o d:ByteArray} {n:Nat} (he:Qae l o d n=0):Qvi l o d n (Qbc l o d n):=by
 unfold Qbc;rw [if_neg (by omega)]
 unfold Qae at he
 by_cases hw:(QH o && QH d)=false
 ·simp_all
 have hw':QH o=true∧QH d=true:=by simp_all
 by_cases h1:Q8 l o d<n
 ·omega
 have hb:=QiY h o d;refine ⟨by omega,h.put hw'.1 hw'.2 (by omega),fun o' d'=>?_,fun d'=>?_,?_⟩
 ·rw [Qon h.sort]
  split
  ·simp_all
  ·rfl
 ·have:=QoN h.sort o d (Q8 l o d-n) d'
  split at this
  ·grind
  ·simp_all
 ·have:=QoC h.sort (fun p hp=>(h.ok p hp).2.2.1) o d (Q8 l o d-n)
  split at this <;> split at this <;> omega
structure Qvs (l:List Pu) (a b d:ByteArray) (n:Nat) (m:List Pu):Prop where
 has:n≤Q8 l a d
 right:Q1 m
 amt:∀ o' d',(Q8 m o' d':Int)=Q8 l o' d'-(if o'=a∧d'=d then (n:Int) else 0)+(if o'=b∧d'=d then (n:Int) else 0)
 sup:∀ d',JY m d'=JY l d'
 len:m.length≤60
theorem Qbm {l:List Pu} (h:Q1 l) (hl:l.length≤60) {a b d:ByteArray} {n:Nat} (hn:n<18446744073709551616) (he:Qan l a b d n=0):Qvs l a b d n (J6 l a b d n):=by
 unfold Qan at he;unfold J6
 by_cases h1:Qae l a d n=0
 ·rw [if_neg (by omega)] at he ⊢
  have B:=Qgz h h1;obtain ⟨M,-⟩:=QeT B.right (by have:=B.len;omega) hn he
  have hh:=B.has;refine ⟨B.has,M.right,fun o' d'=>?_,fun d'=>?_,M.len⟩
  ·rw [M.amt,B.amt]
   by_cases e1:o'=a∧d'=d
   ·grind
   ·grind
  ·rw [M.sup,B.sup]
   have:=QbU l a d
   split
   ·grind
   ·omega
 ·omega
end Go.Proofs.YtnedafiokmjkkaaGreatDoor
namespace Go.Proofs
open Tryz
open Go.Shelf
def laysStr106_ren:Go.Shelf.Ren:=⟨fun | 106=>45 | 213=>75 | 265=>103 | n=>n,fun | 9=>9 | 3=>3 | n=>n,fun | n=>n⟩
theorem laysStr106:Go.Proofs.Lays.n106 prog laysStr106_ren:={
 mixed:=by kernel_rfl
 f106:=func45.trans (congrArg some (by kernel_rfl))
 f213:=func75.trans (congrArg some (by kernel_rfl))
 f265:=func103.trans (congrArg some (by kernel_rfl))
 t3:=underlying3
 a3:=isAgg3
 z3:=sizeOf3
 v3:=zeroValue3
 t9:=underlying9
 a9:=isAgg9
 z9:=sizeOf9
 v9:=zeroValue9 }
def laysSmall283_ren:Go.Shelf.Ren:=⟨fun | 283=>253 | n=>n,fun | 3=>3 | 9=>9 | 4=>4 | n=>n,fun | n=>n⟩
theorem laysSmall283:Go.Proofs.Lays.n283 prog laysSmall283_ren:={
 mixed:=by kernel_rfl
 f283:=func253.trans (congrArg some (by kernel_rfl))
 t3:=underlying3
 a3:=isAgg3
 z3:=sizeOf3
 v3:=zeroValue3
 t4:=underlying4
 a4:=isAgg4
 z4:=sizeOf4
 v4:=zeroValue4
 t9:=underlying9
 a9:=isAgg9
 z9:=sizeOf9
 v9:=zeroValue9 }
def laysDig284_ren:Go.Shelf.Ren:=⟨fun | 284=>254 | 129=>271 | 317=>270 | 318=>272 | n=>n,fun | 53=>47 | 3=>3 | 212=>328 | 0=>0 | 4=>4 | 46=>261 | 5=>5 | 9=>9 | n=>n,fun | 17=>2 | n=>n⟩
theorem laysDig284:Go.Proofs.LaysM.n284 prog laysDig284_ren:={
 mixed:=by kernel_rfl
 f129:=func271.trans (congrArg some (by kernel_rfl))
 f284:=func254.trans (congrArg some (by kernel_rfl))
 f317:=func270.trans (congrArg some (by kernel_rfl))
 f318:=func272.trans (congrArg some (by kernel_rfl))
 t0:=underlying0
 a0:=isAgg0
 z0:=sizeOf0
 v0:=zeroValue0
 t3:=underlying3
 a3:=isAgg3
 z3:=sizeOf3
 v3:=zeroValue3
 t4:=underlying4
 a4:=isAgg4
 z4:=sizeOf4
 v4:=zeroValue4
 t5:=underlying5
 a5:=isAgg5
 z5:=sizeOf5
 v5:=zeroValue5
 t9:=underlying9
 a9:=isAgg9
 z9:=sizeOf9
 v9:=zeroValue9
 t46:=underlying261
 a46:=isAgg261
 z46:=sizeOf261
 v46:=zeroValue261
 t53:=underlying47
 a53:=isAgg47
 z53:=sizeOf47
 v53:=zeroValue47
 t212:=underlying328
 a212:=isAgg328
 z212:=sizeOf328
 v212:=zeroValue328
 g17:=by kernel_rfl
 i0:=by kernel_rfl
 i3:=by kernel_rfl
 i4:=by kernel_rfl
 i5:=by kernel_rfl
 i9:=by kernel_rfl
 i46:=by kernel_rfl
 i53:=by kernel_rfl
 i212:=by kernel_rfl
 m17:=by kernel_rfl }
def laysFmt285_ren:Go.Shelf.Ren:=⟨fun | 285=>255 | n=>n,fun | 37=>29 | 53=>47 | 3=>3 | 4=>4 | 51=>226 | 9=>9 | 5=>5 | 0=>0 | n=>n,fun | n=>n⟩
theorem laysFmt285:Go.Proofs.Lays.n285 prog laysFmt285_ren:={
 mixed:=by kernel_rfl
 f285:=func255.trans (congrArg some (by kernel_rfl))
 t0:=underlying0
 a0:=isAgg0
 z0:=sizeOf0
 v0:=zeroValue0
 t3:=underlying3
 a3:=isAgg3
 z3:=sizeOf3
 v3:=zeroValue3
 t4:=underlying4
 a4:=isAgg4
 z4:=sizeOf4
 v4:=zeroValue4
 t5:=underlying5
 a5:=isAgg5
 z5:=sizeOf5
 v5:=zeroValue5
 t9:=underlying9
 a9:=isAgg9
 z9:=sizeOf9
 v9:=zeroValue9
 t37:=underlying29
 a37:=isAgg29
 z37:=sizeOf29
 v37:=zeroValue29
 t51:=underlying226
 a51:=isAgg226
 z51:=sizeOf226
 v51:=zeroValue226
 t53:=underlying47
 a53:=isAgg47
 z53:=sizeOf47
 v53:=zeroValue47 }
end Go.Proofs
namespace Go.Proofs.YtnedafiokmjkkaaGreatDoor
open Tryz
set_option maxRecDepth 1000000
set_option maxHeartbeats 8000000
open Go.RowKit
def Qb0 (a b:Int):Int:=if a<b then -1 else if b<a then 1 else 0
theorem Qeb (a:Int) (w:World):Calls prog 74 #[Bb a] w fun e w'=>e=.returned (.bool false)∧w'=w:=by
 have e1:(a != a)=false:=by simp
 go_in
 go_wp2;go_ret;exact ⟨by simp;first | done | rfl,rfl⟩
theorem Qkd (a b:Int) (w:World):Calls prog 42 #[Bb a,Bb b] w fun e w'=>e=.returned (Bb (Qb0 a b))∧w'=w:=by
 by_cases h1:a<b
 ·have e1:decide (a<b)=true:=BB h1
  have HC:=hid (show Qb0 a b = -1 by unfold Qb0;rw [if_pos h1])
  clear h1
  go_in
  go_wp2_with (go_at_call 74;refine (Qeb _ _).mono ?_;rintro e w' ⟨rfl,hw⟩;obtain rfl:=hw.symm)
  go_ret;exact ⟨by rw [HC.out];first | done | rfl,rfl⟩
 ·have e1:decide (a<b)=false:=BC h1
  by_cases h2:b<a
  ·have e2:decide (b<a)=true:=BB h2
   have HC:=hid (show Qb0 a b=1 by unfold Qb0;rw [if_neg h1,if_pos h2])
   clear h1 h2
   go_in
   go_wp2_with (go_at_call 74;refine (Qeb _ _).mono ?_;rintro e w' ⟨rfl,hw⟩;obtain rfl:=hw.symm)
   go_ret;exact ⟨by rw [HC.out];first | done | rfl,rfl⟩
  ·have e2:decide (b<a)=false:=BC h2
   have HC:=hid (show Qb0 a b=0 by unfold Qb0;rw [if_neg h1,if_neg h2])
   clear h1 h2
   go_in
   go_wp2_with (go_at_call 74;refine (Qeb _ _).mono ?_;rintro e w' ⟨rfl,hw⟩;obtain rfl:=hw.symm)
   go_ret;exact ⟨by rw [HC.out];first | done | rfl,rfl⟩
theorem Qsb (l:List Int) (k:Nat) (x:Int) (h:l[k]?=some x):orN (l.drop k)=if x≠0 then x else orN (l.drop (k+1)):=by
 have hk:=(Bm.1 h).1
 have e:l.drop k=x :: l.drop (k+1):=by
  rw [Cs hk]
  congr 1
  exact (Bm.1 h).2
 rw [e,orN]
theorem QoJ (l:List Int) (g n:Nat) (T:TypeId) (w:World) (hr:Row w g T (l.map (Value.int .i64))) (hn:n=l.length) (hl:n≤100) :
  Calls prog 41 #[.slice (some ⟨g,0,none⟩) n n] w fun e w'=>e=.returned (Bb (orN l))∧w'=w:=by
 have HR:=hid hr;have HL:=hid hn;clear hr hn
 go_in
 go_wp2
 go_loop [5,8] (fun _ i=>∃ k:Nat,k≤n∧i=Bb (k:Int)∧Hid (orN l=orN (l.drop k))) (fun _ i=>n-(intOf i).toNat)
 case atStart=>exact ⟨0,by omega,rfl,hid rfl⟩
 case round =>
  obtain ⟨k,hk,rfl,HT⟩:=hrel
  by_cases j:k<n
  ·have hlt':(k:Int)<(n:Int):=by omega
   obtain ⟨x,hx⟩:∃ x,l[k]?=some x:=⟨l[k]'(by rw [← HL.out];exact j),Bk _⟩
   have c0:w.cell? ⟨g,k,none⟩=some (Bb x):=by rw [HR.out.cell,Bt,hx];rfl
   have b:=hid (Qsb l k x hx);have HX:=hid hx;clear hx
   by_cases hz:x=0
   ·subst hz
    have d:=hid (show orN l=orN (l.drop (k+1)) by rw [HT.out,b.out,if_neg (by simp)])
    have e0:((0:Int) != 0)=false:=by simp
    clear b HX;go_wp2
    go_round
    case rel=>exact ⟨k+1,by omega,by go_num,d⟩
    case measure=>simp [intOf];omega
   ·have e0:(x != 0)=true:=by simpa using hz
    have d:=hid (show orN l=x by rw [HT.out,b.out,if_pos hz])
    clear hz b HX;go_wp2;go_ret;exact ⟨by rw [d.out];first | done | rfl,rfl⟩
  ·have hge:decide ((k:Int)<(n:Int))=false:=by simp;omega
   have HE:=hid (show orN l=0 by rw [HT.out,CK (by rw [← HL.out];omega)];rfl)
   go_wp2;go_ret;exact ⟨by rw [HE.out];first | done | rfl,rfl⟩
theorem Qt3 (l:List Int) (g n:Nat) (T:TypeId) (w:World) (hr:Row w g T (l.map (Value.int .i64))) (hn:n=l.length) (hl:n≤100) :
  Calls prog 16 #[.slice (some ⟨g,0,none⟩) n n] w fun e w'=>e=.returned (Bb (orN l))∧w'=w:=by
 have HR:=hid hr;have HL:=hid hn;clear hr hn
 go_in
 go_wp2
 go_loop [5,8] (fun _ i=>∃ k:Nat,k≤n∧i=Bb (k:Int)∧Hid (orN l=orN (l.drop k))) (fun _ i=>n-(intOf i).toNat)
 case atStart=>exact ⟨0,by omega,rfl,hid rfl⟩
 case round =>
  obtain ⟨k,hk,rfl,HT⟩:=hrel
  by_cases j:k<n
  ·have hlt':(k:Int)<(n:Int):=by omega
   obtain ⟨x,hx⟩:∃ x,l[k]?=some x:=⟨l[k]'(by rw [← HL.out];exact j),Bk _⟩
   have c0:w.cell? ⟨g,k,none⟩=some (Bb x):=by rw [HR.out.cell,Bt,hx];rfl
   have b:=hid (Qsb l k x hx);have HX:=hid hx;clear hx
   by_cases hz:x=0
   ·subst hz
    have d:=hid (show orN l=orN (l.drop (k+1)) by rw [HT.out,b.out,if_neg (by simp)])
    have e0:((0:Int) != 0)=false:=by simp
    clear b HX;go_wp2
    go_round
    case rel=>exact ⟨k+1,by omega,by go_num,d⟩
    case measure=>simp [intOf];omega
   ·have e0:(x != 0)=true:=by simpa using hz
    have d:=hid (show orN l=x by rw [HT.out,b.out,if_pos hz])
    clear hz b HX;go_wp2;go_ret;exact ⟨by rw [d.out];first | done | rfl,rfl⟩
  ·have hge:decide ((k:Int)<(n:Int))=false:=by simp;omega
   have HE:=hid (show orN l=0 by rw [HT.out,CK (by rw [← HL.out];omega)];rfl)
   go_wp2;go_ret;exact ⟨by rw [HE.out];first | done | rfl,rfl⟩
def QeB (a b:ByteArray):Int:=Lib.compareBytes a.data.toList b.data.toList
theorem Qkf (a b:ByteArray) (w:World):Calls prog 45 #[.string a,.string b] w fun e w'=>e=.returned (Bb (QeB a b))∧w'=w:=Go.Proofs.Any.strings_Compare laysStr106 a b w
def QiR (l:List Int) (X:Value) (W:World):Prop:=∃ g,X=.slice (some ⟨g,0,none⟩) l.length l.length∧Row W g 3 (l.map (Value.int .i64))
theorem QiR.stay (l:List Int):Yr (QiR l):=fun _ _ _ hb ⟨g,e,h⟩=>⟨g,e,h.below hb h.lt⟩
theorem QbG (a b:Mk) (oa ob:Option Addr) (ca cb:Nat) (w:World):Calls prog 26 #[.agg #[Bb a.chan,Bb a.seq,.slice oa a.dig.length ca],.agg #[Bb b.chan,Bb b.seq,.slice ob b.dig.length cb]] w fun e w'=>e=.returned (Bb (orN [Qb0 a.chan b.chan,Qb0 a.seq b.seq]))∧Bd w w':=by
 go_in
 go_upto_region 1 with fail
 refine QcS ?_;intro w0 F hs;have HF:=hid F;clear F hs;apply QD (by kernel_rfl) (fun W hb=>And.intro (HF.out.go hb).r0.cell (HF.out.go hb).r1.cell) (by kernel_rfl)
 ·intro σ;simp [Qj];exact rfl
 iterate 2 (
  iterate 4 (apply RK.val rfl;· intro σ W hb hc ⟨hd,hu⟩;simp at hd hu;go_simp;exact rfl)
  apply RK.callV rfl
  ·intro σ W hb hc ⟨hd,hu⟩;simp at hd hu;go_simp;exact ⟨rfl,rfl⟩
  ·intro W hb hc;exact (Qkd _ _ W).mono fun e w' h=>⟨h.1,h.2 ▸ Bi _ _⟩)
 apply RK.new (QiR [Qb0 a.chan b.chan,Qb0 a.seq b.seq]) (QiR.stay _) rfl
 ·intro σ W hb hc ⟨hd,hu⟩;simp at hd hu
  exact ⟨_,_,by go_simp <;> exact rfl,(Bi _ _).alloc (Bj _) _,W.heap.size,rfl,Row.new _ _ _⟩
 apply RK.callG _ (Yr.eq (Bb (orN [Qb0 a.chan b.chan,Qb0 a.seq b.seq]))) rfl
 ·intro σ W hb hc ⟨hd,hu⟩;simp at hd hu
  obtain ⟨g,e,h⟩:=hd.1;refine ⟨_,_,by go_simp <;> first | exact rfl | exact ⟨rfl,rfl⟩,(QoJ _ g 2 3 W h rfl (by decide)).mono ?_⟩
  rintro e w' ⟨rfl,rfl⟩;exact ⟨_,rfl,Bi _ _,rfl⟩
 apply RK.val rfl;· intro σ W hb hc ⟨hd,hu⟩;simp at hd hu;go_simp;exact rfl
 intro σ W hb _;simp only [Jm,Bv,Bz,Nat.reduceAdd];intro hF;obtain ⟨-,-,-,-,-,-,-,-,-,-,-,-,d,-⟩:=hF;have HB:=hid (HF.out.go hb).b;clear hb;rw [d];go_wp2;go_ret;exact ⟨rfl,HB.out⟩
theorem Qbe (a b:Pu) (w:World):Calls prog 30 #[.agg #[.string a.owner,.string a.denom,.int .u64 (a.amount:Int)],.agg #[.string b.owner,.string b.denom,.int .u64 (b.amount:Int)]] w fun e w'=>e=.returned (Bb (orN [QeB a.owner b.owner,QeB a.denom b.denom]))∧Bd w w':=by
 go_in
 go_upto_region 1 with fail
 refine QcS ?_;intro w0 F hs;have HF:=hid F;clear F hs;apply QD (by kernel_rfl) (fun W hb=>And.intro (HF.out.go hb).r0.cell (HF.out.go hb).r1.cell) (by kernel_rfl)
 ·intro σ;simp [Qj];exact rfl
 iterate 2 (
  iterate 4 (apply RK.val rfl;· intro σ W hb hc ⟨hd,hu⟩;simp at hd hu;go_simp;exact rfl)
  apply RK.callV rfl
  ·intro σ W hb hc ⟨hd,hu⟩;simp at hd hu;go_simp;exact ⟨rfl,rfl⟩
  ·intro W hb hc;exact (Qkf _ _ W).mono fun e w' h=>⟨h.1,h.2 ▸ Bi _ _⟩)
 apply RK.new (QiR [QeB a.owner b.owner,QeB a.denom b.denom]) (QiR.stay _) rfl
 ·intro σ W hb hc ⟨hd,hu⟩;simp at hd hu
  exact ⟨_,_,by go_simp <;> exact rfl,(Bi _ _).alloc (Bj _) _,W.heap.size,rfl,Row.new _ _ _⟩
 apply RK.callG _ (Yr.eq (Bb (orN [QeB a.owner b.owner,QeB a.denom b.denom]))) rfl
 ·intro σ W hb hc ⟨hd,hu⟩;simp at hd hu
  obtain ⟨g,e,h⟩:=hd.1;refine ⟨_,_,by go_simp <;> first | exact rfl | exact ⟨rfl,rfl⟩,(QoJ _ g 2 3 W h rfl (by decide)).mono ?_⟩
  rintro e w' ⟨rfl,rfl⟩;exact ⟨_,rfl,Bi _ _,rfl⟩
 apply RK.val rfl;· intro σ W hb hc ⟨hd,hu⟩;simp at hd hu;go_simp;exact rfl
 intro σ W hb _;simp only [Jm,Bv,Bz,Nat.reduceAdd];intro hF;obtain ⟨-,-,-,-,-,-,-,-,-,-,-,-,d,-⟩:=hF;have HB:=hid (HF.out.go hb).b;clear hb;rw [d];go_wp2;go_ret;exact ⟨rfl,HB.out⟩
theorem Qhz (a b:Mk):Qw a b=decide (orN [Qb0 a.chan b.chan,Qb0 a.seq b.seq]<0):=by
 unfold Qw orN Qb0
 by_cases h1:a.chan<b.chan
 ·simp [h1]
 ·by_cases h2:b.chan<a.chan
  ·have:¬ a.chan=b.chan:=by omega
   simp [h1,h2,this]
  ·have e:a.chan=b.chan:=by omega
   by_cases h3:a.seq<b.seq
   ·simp [orN,e,h3]
   ·by_cases h4:b.seq<a.seq <;> simp [orN,e,h3,h4]
theorem Z5:∀ (a b:List UInt8),Op.bytesLess a b=decide (Lib.compareBytes a b<0)∧(Lib.compareBytes a b=0↔a=b)
 | [],[]=>⟨rfl,by simp [Lib.compareBytes]⟩
 | [],y :: b=>⟨rfl,by simp [Lib.compareBytes]⟩
 | x :: a,[]=>⟨rfl,by simp [Lib.compareBytes]⟩
 | x :: a,y :: b=>by
  obtain ⟨h1,h2⟩:=Z5 a b;unfold Op.bytesLess Lib.compareBytes
  by_cases g1:x<y
  ·have:x≠y:=fun e=>by subst e;exact absurd g1 (UInt8.lt_irrefl x)
   simp [g1,this]
  ·by_cases g2:y<x
   ·have:x≠y:=fun e=>by subst e;exact absurd g2 (UInt8.lt_irrefl x)
    simp [g1,g2,this]
   ·have e:x=y:=by
     have a1:¬ x.toNat<y.toNat:=g1;have a2:¬ y.toNat<x.toNat:=g2;exact UInt8.toNat_inj.1 (by omega)
    subst e;simp [g1,h1,h2]
theorem QhA (a b:Pu):QO a b=decide (orN [QeB a.owner b.owner,QeB a.denom b.denom]<0):=by
 have e:∀ x:ByteArray,x.toList=x.data.toList:=fun x=>by rw [ByteArray.toList_eq]
 obtain ⟨h1,h2⟩:=Z5 a.owner.data.toList b.owner.data.toList;obtain ⟨h3,h4⟩:=Z5 a.denom.data.toList b.denom.data.toList
 have h5:a.owner=b.owner↔a.owner.data.toList=b.owner.data.toList:=by
  constructor
  ·intro h;rw [h]
  ·intro h;exact ByteArray.ext (Array.toList_inj.1 h)
 unfold QO Qjt QeB;rw [e,e,e,e,h1,h3]
 by_cases z:Lib.compareBytes a.owner.data.toList b.owner.data.toList=0
 ·have:=h5.2 (h2.1 z)
  rw [BB this]
  by_cases z2:Lib.compareBytes a.denom.data.toList b.denom.data.toList=0 <;> simp [orN,z,z2]
 ·have:¬ a.owner=b.owner:=fun h=>z (h2.2 (h5.1 h))
  rw [BC this];simp [orN,z]
structure AtU (l:List Pu) (o d:ByteArray) (i:Nat) (fd:Bool):Prop where
 le:i≤l.length
 lo:∀ t p,t<i→l[t]?=some p→QO p ⟨o,d,0⟩=true
 hi:∀ t p,i≤t→l[t]?=some p→QO p ⟨o,d,0⟩=false
 fd:fd=true↔∃ p,l[i]?=some p∧p.owner=o∧p.denom=d
def Qrb (a:Pu) (o d:ByteArray):Int:=orN [QeB a.owner o,QeB a.denom d]
theorem Qg4 (a:Pu) (o d:ByteArray):Qrb a o d<0↔QO a ⟨o,d,0⟩=true:=by
 rw [QhA];simp [Qrb]
theorem Qpn (a b:ByteArray):QeB a b=0↔a=b:=by
 unfold QeB;rw [(Z5 _ _).2]
 constructor
 ·intro h;exact ByteArray.ext (Array.toList_inj.1 h)
 ·intro h;rw [h]
theorem Qpo (a:Pu) (o d:ByteArray):Qrb a o d=0↔a.owner=o∧a.denom=d:=by
 unfold Qrb;rw [JS];simp [Qpn]
def QqM (l:List Pu) (o d:ByteArray) (e:Ending):Prop:=∃ i fd,AtU l o d i fd∧e=.returned (.tuple #[Bb (i:Nat),.bool fd])
theorem Ql6 (l:List Pu) (o d:ByteArray) (sv:Value) (N:Nat) (w:World) (hN:N≤w.heap.size) (hl:Qt PuR 3 w N sv l) (hs:Qba l) (b:l.length≤1000000) :
  Calls prog 231 #[sv,.agg #[.string o,.string d,.int .u64 0],.func (.func 30) #[] #[]] w fun e w'=>Bd w w'∧QqM l o d e:=by
 obtain ⟨rs,he,hr,hR⟩:=hl;refine (Qgc.2.list Qdb (fun v:Pu=>Qrb v o d) l rs [.string o,.string d,.int .u64 0] hN hr (fun r h=>?_) rfl he b (List.Pairwise.imp (fun h=>?_) hs) fun i r p W hr hp hb=>?_).mono ?_
 ·obtain ⟨i,hi,rfl⟩:=Dx h
  rw [hR i _ _ (Bk hi) (Bk (by omega))];rfl
 ·simp only [Qg4];exact fun h2=>Yy h h2
 ·obtain rfl:=hR i r p hr hp
  exact Qbe p ⟨o,d,0⟩ W
 ·rintro e w' ⟨hb,i,fd,⟨h1,h2,h3,h4⟩,rfl⟩
  exact ⟨hb,i,fd,⟨h1,fun t p ht hp=>(Qg4 p o d).1 (h2 t p ht hp),fun t p ht hp=>by simpa [← Int.not_lt,Qg4] using h3 t p ht hp,by simpa [Qpo] using h4⟩,rfl⟩
theorem AtU.cut {l:List Pu} {o d:ByteArray} {i:Nat} {fd:Bool} (h:AtU l o d i fd) (hs:Qba l):l.take i=Zh l o d∧(fd=true→∃ n,l[i]?=some ⟨o,d,n⟩∧Q8 l o d=n∧l.drop (i+1)=Yu l o d)∧(fd=false→Q8 l o d=0∧l.drop i=Yu l o d):=by
 have e1:l.take i=Zh l o d:=by
  unfold Zh
  conv=>rhs;rw [← CS i l,DR]
  rw [CT.2,Cq.2,CZ]
  ·intro p hp
   obtain ⟨t,ht⟩:=Di hp;rw [Cp] at ht;rw [h.hi (i+t) p (by omega) ht]
   simp
  ·intro p hp
   obtain ⟨t,ht⟩:=Di hp;rw [BH] at ht
   split at ht
   ·rename_i b
    exact h.lo t p b ht
   ·cases ht
 obtain ⟨s1,s2⟩:=YV l o d hs;have e2:=Qev hs o d
 have e3:l.drop i=l.filter (isU o d) ++ Yu l o d:=by
  have:=CS i l;rw [e1] at this;rw [s1] at this
  have h2:Zh l o d ++ l.drop i=Zh l o d ++ (l.filter (isU o d) ++ Yu l o d):=by
   rw [← s1] at this;rw [this];exact s1
  exact List.append_cancel_left h2
 refine ⟨e1,fun hf=>?_,fun hf=>?_⟩
 ·obtain ⟨p,hp,ho,hd⟩:=h.fd.1 hf
  have hm:p∈l.filter (isU o d):=Cf.2 ⟨Bn hp,by simp [isU,ho,hd]⟩
  rcases s2 with s2 | ⟨n,s2,-⟩
  ·rw [s2] at hm;cases hm
  ·rw [s2] at hm e3 e2
   obtain rfl:=BR.1 hm;refine ⟨n,hp,by rw [e2];simp [Q8,isU],?_⟩
   rw [← D0,e3];rfl
 ·rcases s2 with s2 | ⟨n,s2,hn⟩
  ·rw [s2] at e3 e2
   exact ⟨e2,e3⟩
  ·rw [s2] at e3
   have:l[i]?=some ⟨o,d,n⟩:=by
    have:=Bl (fun x=>x[0]?) e3
    simpa using this
   have:=h.fd.2 ⟨_,this,rfl,rfl⟩;rw [hf] at this
   cases this
theorem Qfn (a b:Nat) (ha:a<18446744073709551616) (hb:b<18446744073709551616) (w:World):(callFunc 36 #[.int .u64 (a:Int),.int .u64 (b:Int),.int .u64 0]).run prog w=.ok (.value (.tuple #[.int .u64 (((a+b) % 18446744073709551616:Nat):Int),.int .u64 (((a+b) / 18446744073709551616:Nat):Int)])) w:=by
 rw [Ee func36 (by kernel_rfl) (by kernel_rfl) (by kernel_rfl) (e:=add64Entry) (by kernel_rfl),run_add64 _ _ 0 (by omega) (by omega) (by omega) (by omega)]
 congr 5 <;> omega
theorem QsZ {l:List Pu} {k:Nat} {p:Pu} (h:l[k]?=some p) (d:ByteArray):JY (l.take (k+1)) d=JY (l.take k) d+if p.denom=d then p.amount else 0:=by grind [JY,QbS,List.take_add_one]
theorem Qms (l:List Pu) (k:Nat) (d:ByteArray):JY (l.take k) d≤JY l d:=by grind [QbS,List.take_append_drop]
theorem QtB {P:Program} {c:Code} {Q:Exit→Act→World→Prop} {a:Act} {w1:World} {t:TypeId} {cs:List Value} (h:∀ w2,Row w2 w1.heap.size t cs→Bd w1 w2→c.wp P Q a w2):c.wp P Q a (w1.alloc (.cells cs.toArray t)) :=
 h _ (Row.new _ _ _) ((Bi _ _).alloc (by omega) _)
def Quj (l:List Pu) (d:ByteArray):Value:=.tuple #[.int .u64 ((if JY l d<18446744073709551616 then JY l d else 0:Nat):Int),.bool (decide (18446744073709551616≤JY l d))]
theorem Qt.purse {w W:World} {N n c k:Nat} {oa:Option Addr} {l:List Pu} {p:Pu} (h:Qt PuR 3 w N (.slice oa n c) l) (hn:0<n) (hk:l[k]?=some p) (hb:Below N w W):∃ b f,oa=some ⟨b,f,none⟩∧b<N∧W.cell? ⟨b,f+k*3,none⟩=some (.string p.owner)∧W.cell? ⟨b,f+k*3+1,none⟩=some (.string p.denom)∧W.cell? ⟨b,f+k*3+2,none⟩=some (.int .u64 (p.amount:Int)):=by
 obtain ⟨b,f,he,e⟩:=h.spot hn;obtain ⟨d,r,rfl,hc⟩:=e k p hk;have c0:=hc 0 _ rfl;exact ⟨b,f,he,d,(hb.cell (p:=⟨b,f+k*3,none⟩) d).trans c0,(hb.cell (p:=⟨b,f+k*3+1,none⟩) d).trans (hc 1 _ rfl),(hb.cell (p:=⟨b,f+k*3+2,none⟩) d).trans (hc 2 _ rfl)⟩
theorem Qn4 (l:List Pu) (d:ByteArray) (sv:Value) (N:Nat) (w:World) (hN:N≤w.heap.size) (hl:Qt PuR 3 w N sv l) (hf:∀ p∈l,p.amount<18446744073709551616) (hlen:l.length<2305843009213693952) :
  Calls prog 11 #[sv,.string d] w fun e w'=>e=.returned (Quj l d)∧Bd w w':=by
 obtain ⟨oa,ca,rfl,hca⟩:=hl.shape;have HL:=hid hl;have HF:=hid hf;clear hl hf;generalize hn:l.length=n at *;have HN:=hid hn;clear hn
 go_in
 go_wp2_with fail
 go_loopw [6,7,12] (fun s6 s7 z wr=>∃ k S:Nat,k≤n∧z=Bb k∧s6=.int .u64 S∧S<18446744073709551616∧s7=.int .u64 0∧Hid (JY (l.take k) d=S)∧Hid (Bd w wr)) (fun _ _ z _=>n-(intOf z).toNat)
 case atStart=>exact ⟨0,0,BJ _,rfl,rfl,by decide,rfl,rfl,Bi _ _⟩
 case round =>
  obtain ⟨k,S,hk,rfl,rfl,hS,rfl,HS,HB⟩:=hrel
  by_cases E:k<n
  ·obtain ⟨p,hp⟩:∃ p,l[k]?=some p:=⟨l[k]'(by rw [HN.out];exact E),Bk _⟩
   obtain ⟨b,f,rfl,hbN,c0,c1,c2⟩:=HL.out.purse (by omega) hp (HB.out.mono hN)
   have HT:=hid (QsZ hp d);have G:=HF.out p (Bn hp);have hlt':(k:Int)<(n:Int):=by omega
   have I:=HB.out.size;have D:b<wr.heap.size:=by omega
   clear hp
   go_upto_region 5 with fail
   refine QtB ?_;intro w1 C A;have j:=hid (HB.out.trans (A.mono I));obtain ⟨k0,k1,k2⟩:=C.k3;clear c0 c1 c2 C A D
   by_cases hd:p.denom=d
   ·subst hd
    rw [if_pos rfl] at HT;have ha:=Qfn S p.amount hS G
    by_cases m:S+p.amount<18446744073709551616
    ·rw [Cv m,Nat.div_eq_of_lt m] at ha
     go_wp2_with fail
     refine ⟨⟨k+1,S+p.amount,by omega,by go_num,rfl,m,rfl,by rw [← HS.out];exact HT.out,j.out⟩,by simp [intOf];omega⟩
    ·obtain ⟨q,hq⟩:∃ q,(S+p.amount) / 18446744073709551616=q:=⟨_,rfl⟩
     have hq1:decide ((0:Int)<(q:Int))=true:=by simp;omega
     have HX:=hid (Qms l (k+1) p.denom);rw [hq] at ha;go_wp2;go_ret2;have:=HT.out;have:=HX.out;have:=HS.out;refine ⟨?_,j.out⟩;unfold Quj;rw [if_neg (by omega),BB (by omega:18446744073709551616≤JY l p.denom)]
     rfl
   ·rw [if_neg hd,BM] at HT
    have hd':(p.denom.toList == d.toList)=false:=by simp;exact fun h=>hd (toList_inj h)
    clear hd
    go_wp2_with fail
    refine ⟨⟨k+1,S,by omega,by go_num,rfl,hS,rfl,by rw [← HS.out];exact HT.out,j.out⟩,by simp [intOf];omega⟩
  ·obtain rfl:k=n:=by omega
   have hlt':decide ((k:Int)<(k:Int))=false:=by simp
   go_wp2;go_ret2;have:=HS.out;rw [← HN.out,List.take_length] at this;refine ⟨?_,HB.out⟩;unfold Quj;rw [this,if_pos hS,BC (by omega:¬ 18446744073709551616≤S)]
   rfl
theorem QmN (l:List Pu) (d:ByteArray) (x:Nat) (sv:Value) (N:Nat) (w:World) (hN:N≤w.heap.size) (hl:Qt PuR 3 w N sv l) (hf:∀ p∈l,p.amount<18446744073709551616) (b:l.length<2305843009213693952) (hx:x<18446744073709551616) :
  Calls prog 174 #[sv,.string d,.int .u64 (x:Int)] w fun e w'=>e=.returned (.bool (decide (18446744073709551616≤JY l d+x)))∧Bd w w':=by
 have HC:=hid (Qn4 l d sv N w hN hl hf b);unfold Quj at HC
 by_cases hs:JY l d<18446744073709551616
 ·rw [if_pos hs,BC (by omega:¬ 18446744073709551616≤JY l d)] at HC
  have ha:=Qfn (JY l d) x hs hx;generalize JY l d=S at *;obtain ⟨q,hq⟩:∃ q,(S+x) / 18446744073709551616=q:=⟨_,rfl⟩;have HQ:=hid (show decide (0<q)=decide (18446744073709551616≤S+x) by rw [decide_eq_decide];omega)
  go_in
  go_wp2_with fail
  refine HC.out.mono ?_;rintro e w1 ⟨rfl,hb⟩;have HB:=hid hb;go_wp2;go_ret;exact ⟨by rw [← HQ.out];rfl,HB.out⟩
 ·rw [if_neg hs,BB (by omega:18446744073709551616≤JY l d)] at HC
  obtain ⟨q,r,ha⟩:∃ q r:Nat,∀ w:World,(callFunc 36 #[.int .u64 0,.int .u64 (x:Int),.int .u64 0]).run prog w=.ok (.value (.tuple #[.int .u64 (r:Int),.int .u64 (q:Int)])) w:=⟨_,_,Qfn 0 x (by decide) hx⟩
  go_in
  go_wp2_with fail
  refine HC.out.mono ?_;rintro e w1 ⟨rfl,hb⟩;have HB:=hid hb;go_wp2;go_ret;exact ⟨by rw [BB (by omega:18446744073709551616≤JY l d+x)];rfl,HB.out⟩
theorem QtS:∃ i,prog.info? 70=some i∧i.zero=some (Value.agg #[.string ⟨#[]⟩,.string ⟨#[]⟩,.int .u64 0])∧i.size=3∧i.bytes=40:=by
 have h:(prog.info? 70).map (fun i=>(i.zero,i.size,i.bytes))=some (some (Value.agg #[.string ⟨#[]⟩,.string ⟨#[]⟩,.int .u64 0]),3,40):=by kernel_rfl
 cases hi:prog.info? 70 with
 | none=>rw [hi] at h;cases h
 | some i=>rw [hi] at h;simp at h;exact ⟨i,rfl,h⟩
theorem QpA (n:Nat) (w:World) (hn:n≤1000000) :
  Calls prog 232 #[Bc,Bb (n:Int)] w fun e w'=>Bd w w'∧∃ v,e=.returned v∧Qf 70 3 w' w.heap.size v []:=by
 obtain ⟨i0,j,z,D,A⟩:=QtS
 by_cases h0:n=0
 ·subst h0
  go_in
  go_wp2;go_ret;exact ⟨Bi _ _,_,rfl,fun _ h=>(by cases h),Db _ _ _ _⟩
 ·obtain ⟨G,hG⟩:∃ G,G=grownCap w n 0 70:=⟨_,rfl⟩
  obtain ⟨W1,b⟩:∃ W1,W1=w.drew.alloc (.cells (Builtin.zeroCells (Value.agg #[.string ⟨#[]⟩,.string ⟨#[]⟩,.int .u64 0]).cells n ++ Builtin.zeroCells (Value.agg #[.string ⟨#[]⟩,.string ⟨#[]⟩,.int .u64 0]).cells (G-n)) 70):=⟨_,rfl⟩;have hGn:n≤G:=by rw [hG];exact Dv w _ _ _
  have d:G≤maxLen:=by rw [hG];exact DK w n 0 70 (by unfold maxLen;omega)
  have q:∀ ty,(Builtin.append_ #[26,3] ty #[Bc,Bb (n:Int)]).run prog w=.ok (.slice (some ⟨w.heap.size,0,none⟩) n G) W1:=fun ty=>by
   have h:=Lib.run_append_nil_zeros w 26 3 ty 70 i0 _ .i64 .i64 underlying26 underlying3 j z n (by omega) (by omega) (by omega) (by rw [A];omega)
   rw [h,b,← hG]
  have C:Bd w W1:=by
   rw [b];exact (show Bd w w.drew from ⟨rfl,rfl,rfl,Bj _,fun _ _=>rfl⟩).alloc (Bj _) _
  have m:Qf 70 3 W1 w.heap.size (.slice (some ⟨w.heap.size,0,none⟩) 0 G) []:=by
   refine ⟨fun _ h=>(by cases h),rfl,.inr ⟨w.heap.size,G,Builtin.zeroCells (Value.agg #[.string ⟨#[]⟩,.string ⟨#[]⟩,.int .u64 0]).cells n ++ Builtin.zeroCells (Value.agg #[.string ⟨#[]⟩,.string ⟨#[]⟩,.int .u64 0]).cells (G-n),rfl,Bj _,?_,BJ _,d,?_,rfl⟩⟩
   ·rw [b]
    exact BU w.drew _
   ·rw [Ej,Dw,Dw,show (Value.agg #[.string ⟨#[]⟩,.string ⟨#[]⟩,.int .u64 0]).cells.size=3 from rfl]
    omega
  obtain ⟨B,hB⟩:∃ B,w.heap.size=B:=⟨_,rfl⟩;rw [hB] at q;clear b hG d j z D A;have b1:(0:Int)<(n:Int):=by omega
  go_in
  go_wp2_with (at_builtin;refine Eo _ rfl (.tmp 20) (.tmp 21) _ _ rfl _ _ rfl rfl _ _ (q _) ?_)
  go_ret;refine ⟨C,.slice (some ⟨B,0,none⟩) 0 G,rfl,?_⟩;rw [← hB];exact m
def Zs (l:List Pu):List (List Value):=l.map YN
theorem Qmd (l:List Pu):∀ r∈Zs l,r.length=3∧∀ x∈r,x.oneCell'=true:=fun r hr=>by
 obtain ⟨p,-,rfl⟩:=BG.1 hr;refine ⟨rfl,fun x hx=>?_⟩
 simp [YN] at hx
 rcases hx with rfl | rfl | rfl <;> rfl
theorem Qt.recsU {w:World} {N:Nat} {v:Value} {l:List Pu} (h:Qt PuR 3 w N v l):Q9 w N v 3 (Zs l):=by
 obtain ⟨rs,h1,h2,h3⟩:=h
 have:rs=Zs l:=by
  apply CP;intro i;unfold Zs;rw [Bt]
  cases hr:rs[i]? with
  | none =>
   rw [Ds (by have:=List.getElem?_eq_none_iff.1 hr;omega)]
   rfl
  | some r =>
   have hi:i<l.length:=by rw [← h1];exact (Bm.1 hr).1
   rw [Bk hi];have e:=h3 i r l[i] hr (Bk hi);unfold PuR at e;rw [e];rfl
 rw [← this];exact h2
theorem QoE {w:World} {N:Nat} {v:Value} {l:List Pu} (h:Q9 w N v 3 (Zs l)):Qt PuR 3 w N v l:=⟨Zs l,by simp [Zs],h,fun i r x hr hx=>by
 unfold Zs at hr;rw [Bt,hx] at hr
 exact (Bu hr).symm⟩
def JZ (base:Nat) (w:World) (v:Value) (l:List Pu):Prop:=Qf 70 3 w base v (Zs l)
theorem JZ.now {base:Nat} {w:World} {v:Value} {l:List Pu} (h:JZ base w v l):Qt PuR 3 w w.heap.size v l:=QoE (Qf.recs h)
theorem JZ.down {base base':Nat} {w:World} {v:Value} {l:List Pu} (h:JZ base w v l) (hb:base'≤base):JZ base' w v l:=Qf.mono h hb
theorem JZ.past {base:Nat} {w w':World} {v:Value} {l:List Pu} (h:JZ base w v l) (hb:Bd w w'):JZ base w' v l:=Qf.below h hb
theorem JZ.nil (base:Nat) (w:World):JZ base w (Bc) []:=⟨fun _ h=>(by cases h),Db w base 70 3⟩
theorem JZ.shape {base:Nat} {w:World} {v:Value} {l:List Pu} (h:JZ base w v l):∃ oa b,v=.slice oa l.length b∧l.length≤b:=by
 have:=Qf.shape h;simpa [Zs] using this
theorem Qhj {α:Type} {ls:List (List α)} {k:Nat} {x:List α} (h:ls[k]?=some x):(ls.take (k+1)).flatten=(ls.take k).flatten ++ x:=by
 rw [CU,h];simp
theorem QeG {α:Type} (ls:List (List α)) (k:Nat):(ls.take k).flatten.length≤ls.flatten.length:=by
 have:=Bl (fun x=>x.flatten.length) (CS k ls)
 simp only [CX,Bs] at this;omega
theorem Qlk (ls:List (List Pu)) (vs:List Value) (N g n:Nat) (w:World) (hN:N≤w.heap.size) (hm:∀ (i:Nat) l,ls[i]?=some l→∃ v,vs[i]?=some v∧Qt PuR 3 w N v l) (hr:Row w g 26 vs) (hn:ls.length=n) (h10:n≤10) (hl:ls.flatten.length≤1000) :
  Calls prog 201 #[.slice (some ⟨g,0,none⟩) n n] w fun e w'=>Bd w w'∧∃ v,e=.returned v∧JZ w.heap.size w' v ls.flatten:=by
 have HM:=hid (show ∀ (k:Nat) l W,ls[k]?=some l→Bd w W→∃ oa c,W.cell? ⟨g,k,none⟩=some (.slice oa l.length c)∧Q9 W N (.slice oa l.length c) 3 (Zs l) from by
  intro k l W hk hb;obtain ⟨v,hv,z⟩:=hm k l hk;obtain ⟨oa,c,rfl,-⟩:=z.shape;refine ⟨oa,c,(hb.cell (p:=⟨g,k,none⟩) hr.lt).trans ?_,z.recsU.below (hb.mono hN)⟩;have:=hr.cell k
  rw [this,hv])
 obtain ⟨T,hT⟩:∃ T,ls.flatten.length=T:=⟨_,rfl⟩;have HG:=fun W=>QpA T W (by omega)
 go_in
 go_wp2_with fail
 go_loopw [3,11] (fun s3 d wr=>∃ k S:Nat,k≤n∧d=Bb k∧s3=Bb S∧Hid ((ls.take k).flatten.length=S)∧Hid (Bd w wr)) (fun _ d _=>n-(intOf d).toNat)
 case atStart=>exact ⟨0,0,BJ _,rfl,rfl,rfl,Bi _ _⟩
 case round =>
  obtain ⟨k,S,hk,rfl,rfl,HS,HB⟩:=hrel
  by_cases b:k<n
  ·obtain ⟨x,hx⟩:∃ x,ls[k]?=some x:=⟨ls[k]'(by rw [hn];exact b),Bk _⟩
   obtain ⟨oa,c,c0,-⟩:=HM.out k x wr hx HB.out;have HT:=Bl List.length (Qhj hx);have q:=QeG ls (k+1);rw [HT,Bs,HS.out] at q;have hS:S+x.length≤1000:=Bh q hl;have hlt':(k:Int)<(n:Int):=by omega
   have E:=HB.out.size
   go_wp2_with fail
   refine ⟨⟨k+1,S+x.length,by omega,by go_num,by go_num,by rw [← HS.out,← Bs];exact HT,HB.out⟩,by simp [intOf];omega⟩
  ·obtain rfl:k=n:=by omega
   have hlt':decide ((k:Int)<(k:Int))=false:=by simp
   have hS:=HS.out;rw [Bw (by rw [hn];exact Bj _),hT] at hS
   subst hS
   go_upto_region 9 with fail
   have L:=hid (HG wr)
   go_wp2_with fail
   refine L.out.mono ?_;rintro e w1 ⟨Y,v1,rfl,A⟩;obtain ⟨o1,c1,rfl,-⟩:=A.shape;have G:=HB.out.trans (Y.mono HB.out.size);have O:=A.mono HB.out.size
   go_wp2_with fail
   go_loopw [6,27] (fun s6 m wr=>∃ j:Nat,j≤k∧m=Bb j∧Hid (Qf 70 3 wr w.heap.size s6 (Zs (ls.take j).flatten))∧Hid (Bd w wr)) (fun _ m _=>k-(intOf m).toNat)
   case atStart=>exact ⟨0,BJ _,rfl,O,G⟩
   case round =>
    obtain ⟨j,hj,rfl,HR,HB⟩:=hrel;obtain ⟨o6,c6,rfl,-⟩:=HR.out.shape
    by_cases b:j<k
    ·obtain ⟨x,hx⟩:∃ x,ls[j]?=some x:=⟨ls[j]'(by rw [hn];exact b),Bk _⟩
     obtain ⟨oa,c,c0,C⟩:=HM.out j x wr hx HB.out;have HT:=Qhj hx
     have M:=hid (show (Zs (ls.take j).flatten).length+(Zs x).length≤1000000 by
      have:=QeG ls (j+1);rw [HT,Bs] at this;have:=hl;simp only [Zs,Bp]
      omega)
     have hlt':(j:Int)<(k:Int):=by omega
     have E:=HB.out.size
     go_wp2_with (at_builtin;refine Qdj QsA rfl _ _ rfl w.heap.size _ _ rfl HR.out _ _ rfl C (Qmd x) M.out E ?_)
     intro v' w2 D aA hg2;have I:=HB.out.trans aA
     go_wp2_with fail
     refine ⟨⟨j+1,by omega,by go_num,?_,I⟩,by simp [intOf];omega⟩
     rw [HT];unfold Zs;rw [Cc];exact D
    ·obtain rfl:j=k:=by omega
     go_wp2;go_ret;refine ⟨HB.out,_,rfl,?_⟩;unfold JZ;rw [show Zs ls.flatten=Zs (ls.take j).flatten by rw [Bw (by rw [hn];exact Bj _)]]
     exact HR.out
theorem Qt.none {α:Type} {R:World→Nat→List Value→α→Prop} {k:Nat} {w:World} {N n c:Nat} {l:List α} (h:Qt R k w N (.slice none n c) l):l=[]∧n=0∧c=0:=by
 obtain ⟨rs,h1,h2,-⟩:=h;obtain ⟨rfl,h4,h5⟩:=QjH h2;exact ⟨List.eq_nil_of_length_eq_zero (by simpa using h1.symm),h4,h5⟩
theorem Qt.between {α:Type} {R:World→Nat→List Value→α→Prop} {k:Nat} {w:World} {N n ca i j:Nat} {oa:Option Addr} {l:List α} (h:Qt R k w N (.slice oa n ca) l) (hij:i≤j) (hj:j≤n):Qt R k w N (sliced oa i j ca k) ((l.drop i).take (j-i)):=by
 obtain ⟨oa',ca',he,hca⟩:=h.shape
 injection he with e1 e2 e3
 subst e1 e2 e3
 by_cases h0:i=j
 ·subst h0
  rw [DF,CL]
  cases oa with
  | none =>
   obtain ⟨rfl,h2,rfl⟩:=h.none;obtain rfl:i=0:=by omega
   simp only [sliced,Option.map_none,DF];exact Qt.nil _ _ _ _
  | some a=>exact ⟨[],rfl,.inr (.inl ⟨if ca=i then a else a.add (i*k),ca-i,by simp only [sliced,DF];split <;> simp,rfl⟩),fun _ _ _ h=>by simp at h⟩
 ·obtain ⟨rs,h1,h2,h3⟩:=h
  refine ⟨(rs.drop i).take (j-i),by simp [h1],?_,fun t r x hr hx=>?_⟩
  ·rcases h2 with ⟨e,rfl⟩ | ⟨a,m,e,rfl⟩ | ⟨b,d,m,e,hc,hh⟩
   ·simp at h1;omega
   ·simp at h1;omega
   ·injection e with e1 e2 e3
    subst e1 e3;have A:¬ ca=i:=by omega
    refine .inr (.inr ⟨b,d+i*k,ca-i,?_,by simp;omega,fun t r hr=>?_⟩)
    ·rw [C2,Dh,DJ (by omega)]
     simp [sliced,A,Addr.add]
    ·rw [BH] at hr
     split at hr
     ·rw [Cp] at hr
      obtain ⟨g1,g2⟩:=hh (i+t) r hr;refine ⟨g1,fun q x hx=>?_⟩
      have:=g2 q x hx;rw [show d+(i+t)*k+q=d+i*k+t*k+q by rw [C0];omega] at this
      exact this
     ·cases hr
  ·rw [BH] at hr hx
   split at hr
   ·rename_i z
    rw [if_pos z] at hx;rw [Cp] at hr hx;exact h3 _ r x hr hx
   ·cases hr
theorem Qkn:prog.underlying 26=some (.slice (prog.elem 26)):=by kernel_rfl
theorem QsR (w:World):(sizeOf (prog.elem 26)).run prog w=.ok 3 w:=by kernel_rfl
theorem QhN {w:World} {N:Nat} {oa:Option Addr} {n ca:Nat} {l:List Pu} (h:Qt PuR 3 w N (.slice oa n ca) l) (i:Nat) (hi:i≤n):∃ o c,(∀ w',(Instr.sliceAt 26 (.slice oa n ca) (some (Bb (i:Int))) none none).run prog w'=.ok (.slice o (n-i) c) w')∧Qt PuR 3 w N (.slice o (n-i) c) (l.drop i):=by
 have hn:n=l.length:=by obtain ⟨oa',ca',he,_⟩:=h.shape;simp at he;exact he.2.1
 have:=h.between hi (Bj _);rw [Bw (by simp;omega)] at this
 refine ⟨_,_,fun w'=>?_,this⟩
 rw [Ec w' _ _ _ _ _ Qkn,run_slice_l w' _ _ _ _ Qkn .i64 (i:Int) (by omega) (by omega),QsR]
 rfl
theorem Qsq {w:World} {N:Nat} {oa:Option Addr} {n ca:Nat} {l:List Pu} (h:Qt PuR 3 w N (.slice oa n ca) l) (j:Nat) (hj:j≤n):∃ o c,(∀ w',(Instr.sliceAt 26 (.slice oa n ca) none (some (Bb (j:Int))) none).run prog w'=.ok (.slice o j c) w')∧Qt PuR 3 w N (.slice o j c) (l.take j):=by
 have hc:n≤ca:=by obtain ⟨oa',ca',he,hc⟩:=h.shape;simp at he;omega
 have:=h.between (BJ j) hj;rw [BT,Nat.sub_zero] at this;refine ⟨_,_,fun w'=>?_,this⟩
 rw [Ec w' _ _ _ _ _ Qkn,run_slice_h w' _ _ _ _ Qkn .i64 (j:Int) (by omega) (by omega),QsR]
 rfl
theorem Qjj (l:List Pu) (o d:ByteArray) (sv:Value) (N:Nat) (w:World) (hN:N≤w.heap.size) (hl:Qt PuR 3 w N sv l) (hs:Qba l) (j:l.length≤1000000) :
  Calls prog 200 #[sv,.string o,.string d] w fun e w'=>Bd w w'∧QqM l o d e:=by
 obtain ⟨oa,ca,rfl,hca⟩:=hl.shape;have HC:=hid (Ql6 l o d _ N w hN hl hs j);clear hl hs
 go_in
 go_wp2_with fail
 refine HC.out.mono ?_;rintro e w2 ⟨hb,i,fd,b,rfl⟩;have HB:=hid hb;have m:=hid b;clear hb b;go_wp2;go_ret2;exact ⟨HB.out,i,fd,m.out,rfl⟩
theorem QgL (l:List Pu) (o d:ByteArray) (sv:Value) (N:Nat) (w:World) (hN:N≤w.heap.size) (hl:Qt PuR 3 w N sv l) (hs:Qba l) (j:l.length≤1000000) :
  Calls prog 160 #[sv,.string o,.string d] w fun e w'=>e=.returned (.int .u64 (Q8 l o d:Int))∧Bd w w':=by
 have HC:=Qjj l o d sv N w hN hl hs j;obtain ⟨oa,ca,rfl,hca⟩:=hl.shape;generalize hn:l.length=n at *
 go_in
 go_wp2_with fail
 refine HC.mono ?_;rintro e w2 ⟨hb,i,fd,m,rfl⟩;obtain ⟨-,h1,h2⟩:=m.cut hs
 cases fd with
 | true =>
  obtain ⟨x,hx,ha,-⟩:=h1 rfl;have hil:i<n:=by rw [← hn];exact (Bm.1 hx).1
  obtain ⟨b,f,rfl,hbN,c0,c1,c2⟩:=hl.purse (by omega) hx (hb.mono hN)
  go_wp2;go_ret;exact ⟨by rw [ha];rfl,hb⟩
 | false =>
  have HA:=hid (h2 rfl).1;go_wp2;go_ret;exact ⟨by rw [HA.out];rfl,hb⟩
theorem QfQ (l:List Pu) (o d:ByteArray) (x:Nat) (T:Nat) (aF sv:Value) (N:Nat) (w:World) (hN:N≤w.heap.size) (hl:Qt PuR 3 w N sv l) (hs:Qba l) (aI:l.length≤60)
  (aJ:∀ (aH:Array Value) (W:World),(callFunc T aH).run prog W=.ok (.enter T aH) W) (aR:∀ W,Bd w W→Calls prog T #[.int .u64 (Q8 l o d:Int),aF] W fun e w'=>e=.returned (.int .u64 (x:Int))∧Bd W w') :
  Calls prog 161 #[sv,.string o,.string d,.func (.func T) #[] #[aF]] w fun e w'=>Bd w w'∧∃ v,e=.returned v∧JZ w.heap.size w' v (QcB l o d x):=by
 have HC:=Qjj l o d sv N w hN hl hs (by omega)
 have HS:=hid hs;have HL:=hid hl;have aP:=hid aR;have aG:=hid aJ;obtain ⟨oa,ca,rfl,hca⟩:=hl.shape;have aQ:=hid aI;generalize hn:l.length=n at *;have HN:=hid hn;clear hl hs hn aR aJ aI
 go_in
 go_wp2_with fail
 refine HC.mono ?_;rintro e w1 ⟨hb,i,fd,aO,rfl⟩;obtain ⟨h0,h1,h2⟩:=aO.cut HS.out;have aS:i≤n:=by rw [← HN.out];exact aO.le
 have HB:=hid hb;obtain ⟨o1,c1,aY,aA⟩:=Qsq HL.out i aS;obtain ⟨o2,c2,aZ,aT⟩:=QhN HL.out i aS;rw [h0] at aA;have aM:=aA.below PuR.stays (HB.out.mono hN);have O:=aT.below PuR.stays (HB.out.mono hN);have HH:=And.intro h1 h2;clear HC hb aO h0 h1 h2 aA aT
 go_upto_region 2 with fail
 apply QD (C:=fun _=>True) (by kernel_rfl) (fun _ _=>trivial) (by kernel_rfl)
 ·intro σ;simp [Qj];exact rfl
 iterate 8 (apply RK.val rfl;· intro σ W hb hc hd;simp [Has] at hd;go_simp;exact rfl)
 intro σ W hb _ hF;simp [Jm] at hF;go_simp;clear hF;have b:=HB.out.trans (hb.mono HB.out.size);replace aM:=hid (aM.below PuR.stays (hb.mono (Bh hN HB.out.size)));replace O:=hid (O.below PuR.stays (hb.mono (Bh hN HB.out.size)));clear hb aY aZ HB;have D:=hid (Bh hN b.size)
 have I:=hid (show ∀ (w3:World) (o3:Option Addr) (n3 c3:Nat) (vs:List Value) (g:Nat),Bd W w3→Qt PuR 3 w3 w3.heap.size (.slice o3 n3 c3) (Yu l o d)→Row w3 g 26 vs→(∀ p,vs=[.slice o1 i c1,p,.slice o3 n3 c3]→Qt PuR 3 w3 w3.heap.size p (Qc2 o d x)→Calls prog 201 #[.slice (some ⟨g,0,none⟩) 3 3] w3 fun e w'=>Bd w3 w'∧∃ v,e=.returned v∧JZ w3.heap.size w' v (QcB l o d x)) from by
  intro w3 o3 n3 c3 vs g M aB hr p a3 aX;subst a3;have hz:=M.size
  have:=Qlk [Zh l o d,Qc2 o d x,Yu l o d] _ w3.heap.size g 3 w3 (Bj _) (fun i m hi=>by
   match i,hi with
   | 0,hi=>obtain rfl:=Bu hi;exact ⟨_,rfl,(aM.below PuR.stays (M.mono D.out)).mono PuR.stays (by have:=D.out;omega)⟩
   | 1,hi=>obtain rfl:=Bu hi;exact ⟨_,rfl,aX⟩
   | 2,hi=>obtain rfl:=Bu hi;exact ⟨_,rfl,aB⟩) hr rfl (by decide) (by
    have h1:=Bl List.length (YV l o d HS.out).1;have h2:=aQ.out;have h3:=HN.out;have h4:(Qc2 o d x).length≤1:=by unfold Qc2;split <;> simp
    simp only [Bs] at h1;simp
    omega)
  have e:[Zh l o d,Qc2 o d x,Yu l o d].flatten=QcB l o d x:=by simp [QcB]
  rw [e] at this
  exact this)
 have GO:∃ (h3:Nat),Q8 l o d=h3:=⟨_,rfl⟩;obtain ⟨h3,e3⟩:=GO;have aE:=hid e3;clear e3
 cases fd
 ·obtain ⟨ha,hd⟩:=HH.2 rfl
  obtain rfl:h3=0:=by rw [← aE.out];exact ha
  have L:=hid O;rw [hd] at L;clear ha hd O HH;generalize n-i=n3 at *;generalize c2=c3 at *;generalize o2=o3 at *;have aL:∀ W,Bd w W→Calls prog T #[.int .u64 0,aF] W fun e w'=>e=.returned (.int .u64 (x:Int))∧Bd W w':=fun W hb=>by have:=aP.out W hb;rw [aE.out] at this;exact this
  go_wp2_with fail
  rw [aG.out,DO];refine (aL _ b).mono ?_;rintro e w3 ⟨rfl,M⟩;have S:=hid M;clear M
  by_cases aD:x=0
  ·subst aD
   go_wp2_with fail
   refine QbW ?_;intro w4 E G;have q:=S.out.trans (G.mono S.out.size);refine (I.out w4 o3 n3 c3 _ _ q ((L.out.below PuR.stays (q.mono D.out)).mono PuR.stays (Bh D.out q.size)) E _ rfl (Qt.nil _ _ _ _)).mono ?_;rintro e w5 ⟨A,v,rfl,hv⟩;have HV:=hid (hv.down (b.trans (q.mono b.size)).size);have z:=hid (b.trans ((q.trans (A.mono q.size)).mono b.size));clear hv A E G;go_wp2;go_ret;exact ⟨z.out,v,rfl,HV.out⟩
  ·have a4:decide ((0:Int)<(x:Int))=true:=by simp;omega
   have hx2:decide (0<x)=true:=by simp;omega
   go_upto_region 10 with fail
   refine QtB ?_;intro w4 E G;have q:=hgo S G
   have aN:=hid (show Qt PuR 3 w4 w4.heap.size (.slice (some ⟨w3.heap.size,0,none⟩) 1 1) (Qc2 o d x) from by
    unfold Qc2;rw [if_neg aD]
    exact QoE (.inr (.inr ⟨w3.heap.size,0,1,rfl,Bj _,fun i r hi=>by
     match i,hi with
     | 0,hi =>
      obtain rfl:=Bu hi;refine ⟨E.lt,fun j y hy=>?_⟩
      have:=E.cell j;simp only [CR,Bq];rw [this]
      exact hy⟩)))
   clear E G
   go_wp2_with fail
   refine QbW ?_;intro w5 aC A;have z:=hgo q A;refine (I.out w5 o3 n3 c3 _ _ z.out ((L.out.below PuR.stays (z.out.mono D.out)).mono PuR.stays (Bh D.out z.out.size)) aC _ rfl ((aN.out.below PuR.stays A).mono PuR.stays A.size)).mono ?_;rintro e w6 ⟨Y,v,rfl,hv⟩;have HV:=hid (hv.down (b.trans (z.out.mono b.size)).size);have aK:=hid (b.trans ((z.out.trans (Y.mono z.out.size)).mono b.size));clear hv Y aC A;go_wp2;go_ret;exact ⟨aK.out,v,rfl,HV.out⟩
 ·obtain ⟨y,hy,aV,hd⟩:=HH.1 rfl
  obtain rfl:h3=y:=by rw [← aE.out];exact aV
  have hil:i<n:=by rw [← HN.out];exact (Bm.1 hy).1
  obtain ⟨b2,f2,rfl,aW,z0,z1,z2⟩:=O.purse (k:=0) (by omega) (by rw [Cp];exact hy) (Bi _ _)
  obtain ⟨o3,c3,aU,aB⟩:=QhN O 1 (by omega)
  rw [D0,hd] at aB;have L:=hid aB;have aL:=hid (show ∀ W,Bd w W→Calls prog T #[.int .u64 (h3:Int),aF] W fun e w'=>e=.returned (.int .u64 (x:Int))∧Bd W w' from fun W hb=>by have:=aP.out W hb;rw [aE.out] at this;exact this)
  have hlt2:0<n-i:=by omega
  clear hy aV hd aB z0 z1 O HH;generalize n-i=m at *;generalize aA:m-1=n3 at *;have HZ:=hid (fun X (hX:Bd W X)=>(hX.cell (p:=⟨b2,f2+0*3+2,none⟩) (Br aW D.out)).trans z2)
  simp only [CR,BM] at HZ;have hr3':∀ w',(Instr.sliceAt 26 (.slice (some ⟨b2,f2,none⟩) m c2) (some (Bb 1)) none none).run prog w'=.ok (.slice o3 n3 c3) w':=aU;clear z2 aU aA
  go_upto_region 5 with fail
  apply QD (by kernel_rfl) (fun X hX=>HZ.out X hX) (by kernel_rfl)
  ·intro σ;simp [Qj];exact rfl
  iterate 8 (apply RK.val rfl;· intro σ W hb hc hd;simp [Has] at hd;go_simp;exact rfl)
  clear hr3';intro σ W' hb _ hF;simp [Jm] at hF;go_simp;clear hF;replace b:=hid (b.trans (hb.mono b.size));replace L:=hid (L.out.below PuR.stays (hb.mono D.out));replace I:=hid (fun w3 o3 n3 c3 vs g (h:Below W'.heap.size W' w3)=>I.out w3 o3 n3 c3 vs g (hb.trans (h.mono hb.size)))
  replace D:=hid (Bh D.out hb.size);clear hb
  go_wp2_with fail
  rw [aG.out,DO];refine (aL.out _ b).mono ?_;rintro e w3 ⟨rfl,M⟩;have S:=hid M;clear M
  by_cases aD:x=0
  ·subst aD
   go_wp2_with fail
   refine QbW ?_;intro w4 E G;have q:=hgo S G;refine (I.out w4 o3 n3 c3 _ _ q.out ((L.out.below PuR.stays (q.out.mono D.out)).mono PuR.stays (Bh D.out q.out.size)) E _ rfl (Qt.nil _ _ _ _)).mono ?_;rintro e w5 ⟨A,v,rfl,hv⟩;have HV:=hid (hv.down (b.trans (q.out.mono b.size)).size);have z:=hid (b.trans ((q.out.trans (A.mono q.out.size)).mono b.size));clear hv A E G;go_wp2;go_ret;exact ⟨z.out,v,rfl,HV.out⟩
  ·have a4:decide ((0:Int)<(x:Int))=true:=by simp;omega
   go_upto_region 10 with fail
   refine QtB ?_;intro w4 E G;have q:=hgo S G
   have aN:=hid (show Qt PuR 3 w4 w4.heap.size (.slice (some ⟨w3.heap.size,0,none⟩) 1 1) (Qc2 o d x) from by
    unfold Qc2;rw [if_neg aD]
    exact QoE (.inr (.inr ⟨w3.heap.size,0,1,rfl,Bj _,fun i r hi=>by
     match i,hi with
     | 0,hi =>
      obtain rfl:=Bu hi;refine ⟨E.lt,fun j y hy=>?_⟩
      have:=E.cell j;simp only [CR,Bq];rw [this]
      exact hy⟩)))
   clear E G
   go_wp2_with fail
   refine QbW ?_;intro w5 aC A;have z:=hgo q A;refine (I.out w5 o3 n3 c3 _ _ z.out ((L.out.below PuR.stays (z.out.mono D.out)).mono PuR.stays (Bh D.out z.out.size)) aC _ rfl ((aN.out.below PuR.stays A).mono PuR.stays A.size)).mono ?_;rintro e w6 ⟨Y,v,rfl,hv⟩;have HV:=hid (hv.down (b.trans (z.out.mono b.size)).size);have aK:=hid (b.trans ((z.out.trans (Y.mono z.out.size)).mono b.size));clear hv Y aC A;go_wp2;go_ret;exact ⟨aK.out,v,rfl,HV.out⟩
end Go.Proofs.YtnedafiokmjkkaaGreatDoor
