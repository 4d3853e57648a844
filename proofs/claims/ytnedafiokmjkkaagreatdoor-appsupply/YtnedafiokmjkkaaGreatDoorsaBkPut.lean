/- Lists of purses put together. -/
import Derived.Test.YtnedafiokmjkkaaGreatDoorsaBkPack
namespace Go.Proofs.YtnedafiokmjkkaaGreatDoor
open Tryz
set_option maxRecDepth 1000000
set_option maxHeartbeats 8000000
open Go.RowKit
variable {f:FuncId} {t:TypeId} {N g i k n:Nat} {d:ByteArray} {w w':World} {v:Value} {oa:Option Addr}
def QgE (f:FuncId) (t:TypeId) (k:Nat) (fid:FuncId):Prop:=Qx t k→∀ (Z:Nat→Int) (rs:List (List Value)) (sv:Value) (ts:List Value) (N:Nat) (w:World),N≤w.heap.size→Ja w N sv k rs→(∀ r∈rs,r.length=k)→ts.length=k→rs.length≤1000000 →
 (∀ a b,a≤b→b<rs.length→Z b<0→Z a<0)→(∀ h r W,rs[h]?=some r→Bd w W→Calls prog fid #[.agg r.toArray,.agg ts.toArray] W fun e W'=>e=.returned (Bb (Z h))∧Bd W W') →
 Calls prog f #[sv,.agg ts.toArray,.func (.func fid) #[] #[]] w fun e w'=>Bd w w'∧∃ i fd,e=.returned (.tuple #[Bb ((i:Nat):Int),.bool fd])∧i≤rs.length∧(∀ j,j<i→Z j<0)∧(∀ j,i≤j→j<rs.length→0≤Z j)∧(fd=true↔i<rs.length∧Z i=0)
theorem Qgm: QgE 196 90 3 26∧QgE 231 70 3 30:=by
 refine ⟨?_,?_⟩
 all_goals
  intro hS Z rs sv ts N w hN hl hk T hlen m q;obtain ⟨oa,ca,rfl,hca⟩:=hl.shape;have HL:=hid hl;have HM:=hid m;have HC:=hid q;have HK:=hid hk;clear hl m q hk;generalize hn:rs.length=n at *;have HN:=hid hn;clear hn;have HR:=hid (fun i (hi:i<n)=>HL.out.at HK.out hN HN.out hi)
  have HT:=hid (show Qx _ ts.length by rw [T];exact hS)
  go_in
  go_upto_region 1 with fail
  refine JQ ?_;intro w0 F hs;have HF:=hid F;clear F
  go_wp2_with fail
  go_loopw [9,10] (fun s9 G wr=>∃ lo hi:Nat,s9=Bb lo∧G=Bb hi∧lo≤hi∧hi≤n∧Hid (Bd w0 wr∧(∀ t,t<lo→Z t<0)∧∀ t,hi≤t→t<n→0≤Z t)) (fun s9 G _=>(intOf G).toNat-(intOf s9).toNat)
  case atStart=>exact ⟨0,n,rfl,rfl,BF _,Bj _,hid ⟨Bi _ _,fun t ht=>absurd ht (Nat.not_lt_zero _),fun t h1 h2=>by omega⟩⟩
  case round =>
   obtain ⟨lo,hi,rfl,rfl,hlh,A,HB⟩:=hrel;have e:=hid (HF.out.go HB.out.1)
   by_cases hlt:lo<hi
   ·have L:(lo+hi) / 2<n:=by omega
    have hh1:((lo:Int)+(hi:Int)) / 2=(((lo+hi) / 2:Nat):Int):=by omega
    have hlh2:lo≤(lo+hi) / 2∧(lo+hi) / 2<hi:=by omega
    generalize (lo+hi) / 2=h at *;obtain ⟨b,o,r,rfl,hr,D,hm⟩:=HR.out h L;have HX:=hid hm;have z:=hid (HC.out h r · hr)
    have HS:=hid (show Qx _ r.length by rw [D];exact hS)
    have hlt':(lo:Int)<(hi:Int):=by omega
    have HZ:=hid (fun t=>HM.out t h)
    have O:=hid (fun t (h1:h≤t) h2 h3=>HM.out h t h1 h2 h3)
    generalize Z h=cc at *;clear hm hr
    go_upto_region 5 with fail
    apply QJ (C:=fun _=>True) (by kernel_rfl) (fun _ _=>trivial) (by kernel_rfl)
    ·intro σ;simp [Ql];exact rfl
    iterate 4 (apply RK.val rfl;· intro σ W hb hc ⟨hd,hu⟩;simp at hd hu;go_simp;exact rfl)
    apply RK.val rfl;· intro σ W hb hc ⟨hd,hu⟩;simp at hd;exact ZF rfl hd (HX.out W (e.out.go hb).b) HS.out
    apply RK.val rfl;· intro σ W hb hc ⟨hd,hu⟩;exact ZF rfl rfl (e.out.go hb).r0.range HT.out
    apply RK.callV rfl
    ·intro σ W hb hc hd;simp [Has] at hd;go_simp;exact ⟨rfl,rfl⟩
    ·intro W hb _;exact z.out W (e.out.go hb).b
    apply RK.val rfl;· intro σ W hb hc hd;simp [Has] at hd;go_simp;exact rfl
    intro σ W hb _ hF;simp [JE] at hF;go_simp;clear hF;have j:=hid (HB.out.1.trans (hb.mono HB.out.1.size));clear hb
    by_cases E:cc<0
    ·have hyx':decide (cc<0)=true:=by simpa using E
     go_wp2_with fail
     exact ⟨⟨h+1,hi,by go_num,rfl,by omega,A,hid ⟨j.out,fun t ht=>HZ.out t (by omega) L E,HB.out.2.2⟩⟩,by simp [intOf];omega⟩
    ·have hyx':decide (cc<0)=false:=by simpa using E
     go_wp2_with fail
     exact ⟨⟨lo,h,rfl,by go_num,by omega,by omega,hid ⟨j.out,HB.out.2.1,fun t h1 h2=>DO.1 fun h3=>by have:=O.out t h1 h2 h3;omega⟩⟩,by simp [intOf];omega⟩
   ·obtain rfl:hi=lo:=by omega
    have hge:decide ((hi:Int)<(hi:Int))=false:=by simp
    go_upto_region 8 with fail
    apply QJ (C:=fun _=>True) (by kernel_rfl) (fun _ _=>trivial) (by kernel_rfl)
    ·intro σ;simp [Ql];exact rfl
    by_cases hn:hi<n
    ·obtain ⟨b,o,r,rfl,hr,D,hm⟩:=HR.out hi hn
     have HX:=hid hm;have z:=hid (HC.out hi r · hr)
     have HS:=hid (show Qx _ r.length by rw [D];exact hS)
     have hlt':(hi:Int)<(n:Int):=by omega
     have I:decide ((hi:Int)<(n:Int))=true:=by simpa using hlt'
     generalize M:Z hi=cc at *;have S:=hid M;clear hm hr M
     iterate 5 (apply RK.val rfl;· intro σ W hb hc hd;simp [Has] at hd;go_simp;exact rfl)
     iterate 4 (apply RK.valW;· intro σ W hb hc hd;simp [Has] at hd;refine ⟨by simp [Region.wanted,yielded, *],?_⟩;go_simp;exact rfl)
     apply RK.valW;· intro σ W hb hc hd;simp [Has] at hd;exact ⟨by simp [Region.wanted,yielded, *],ZF rfl (by first | exact hd.1 | exact hd.2.1 | exact hd.1.2 | exact hd.1.1) (HX.out W (e.out.go hb).b) HS.out⟩
     apply RK.valW;· intro σ W hb hc hd;simp [Has] at hd;exact ⟨by simp [Region.wanted,yielded, *],ZF rfl rfl (e.out.go hb).r0.range HT.out⟩
     apply RK.callW
     ·intro σ W hb hc hd;simp [Has] at hd;refine ⟨by simp [Region.wanted,yielded, *],?_⟩;go_simp;exact ⟨rfl,rfl⟩
     ·intro W hb _;exact z.out W (e.out.go hb).b
     apply RK.valW
     ·intro σ W hb hc hd;simp [Has] at hd;refine ⟨by simp [Region.wanted,yielded, *],?_⟩;go_simp;exact rfl
     iterate 3 (apply RK.val rfl;· intro σ W hb hc hd;simp [Has] at hd;go_simp;exact rfl)
     intro σ W hb _ hF;simp [JE] at hF;go_simp;clear hF;have j:=hid (e.out.go hb).b;clear hb;go_wp2;go_ret2;exact ⟨j.out,hi,_,rfl,A,HB.out.2.1,HB.out.2.2,by rw [S.out];simp [hn]⟩
    ·have I:decide ((hi:Int)<(n:Int))=false:=by simp;omega
     iterate 5 (apply RK.val rfl;· intro σ W hb hc hd;simp [Has] at hd;go_simp;exact rfl)
     iterate 8 (apply RK.pass;· intro σ W hb hc hd;simp [Has] at hd;simp [Region.wanted,yielded, *])
     iterate 3 (apply RK.val rfl;· intro σ W hb hc hd;simp [Has] at hd;go_simp;exact rfl)
     intro σ W hb _ hF;simp [JE] at hF;go_simp;clear hF;have j:=hid (e.out.go hb).b;clear hb;go_wp2;go_ret2;exact ⟨j.out,hi,_,rfl,A,HB.out.2.1,HB.out.2.2,by simp [hn]⟩
theorem QgE.list {j:FuncId} (h:QgE f t k j) (hS:Qx t k) {α:Type} (c:α→Int) (l:List α) (rs:List (List Value)) {sv:Value} (ts:List Value) {N:Nat} {w:World} (hN:N≤w.heap.size) (hl:Ja w N sv k rs) (hk:∀ r∈rs,r.length=k) (m:ts.length=k) (he:rs.length=l.length) (hlen:l.length≤1000000) (hs:l.Pairwise fun a b=>c b<0→c a<0)
  (hc:∀ (i:Nat) r p W,rs[i]?=some r→l[i]?=some p→Bd w W→Calls prog j #[.agg r.toArray,.agg ts.toArray] W fun e W'=>e=.returned (Bb (c p))∧Bd W W') :
  Calls prog f #[sv,.agg ts.toArray,.func (.func j) #[] #[]] w fun e w'=>Bd w w'∧∃ i fd,AtL c l i fd∧e=.returned (.tuple #[Bb (i:Nat),.bool fd]):=by
 refine (h hS (QkU c l) rs sv ts N w hN hl hk m (by omega) (by rw [he];exact QjN hs) fun i r W hr hb=>?_).mono ?_
 ·have hp:=Bk (l:=l) (i:=i) (by rw [← he];exact (Bm.1 hr).1)
  rw [Qbt hp];exact hc i r _ W hr hp hb
 ·rintro e w' ⟨hb,i,fd,rfl,h1,h2,h3,h4⟩
  rw [he] at h1 h3 h4;exact ⟨hb,i,fd,Qri h1 h2 h3 h4,rfl⟩
def Qb9 (a b:Int):Int:=if a<b then -1 else if b<a then 1 else 0
theorem Qei (a:Int) (w:World):Calls prog 74 #[Bb a] w fun e w'=>e=.returned (.bool false)∧w'=w:=by
 have e1:(a != a)=false:=by simp
 go_in
 go_wp2;go_ret;exact ⟨by simp;first | done | rfl,rfl⟩
theorem Qkt (a b:Int) (w:World):Calls prog 42 #[Bb a,Bb b] w fun e w'=>e=.returned (Bb (Qb9 a b))∧w'=w:=by
 by_cases h1:a<b
 ·have e1:decide (a<b)=true:=BB h1
  have HC:=hid (show Qb9 a b = -1 by unfold Qb9;rw [if_pos h1])
  clear h1
  go_in
  go_wp2_with (go_at_call 74;refine (Qei _ _).mono ?_;rintro e w' ⟨rfl,hw⟩;obtain rfl:=hw.symm)
  go_ret;exact ⟨by rw [HC.out];first | done | rfl,rfl⟩
 ·have e1:decide (a<b)=false:=BD h1
  by_cases h2:b<a
  ·have e2:decide (b<a)=true:=BB h2
   have HC:=hid (show Qb9 a b=1 by unfold Qb9;rw [if_neg h1,if_pos h2])
   clear h1 h2
   go_in
   go_wp2_with (go_at_call 74;refine (Qei _ _).mono ?_;rintro e w' ⟨rfl,hw⟩;obtain rfl:=hw.symm)
   go_ret;exact ⟨by rw [HC.out];first | done | rfl,rfl⟩
  ·have e2:decide (b<a)=false:=BD h2
   have HC:=hid (show Qb9 a b=0 by unfold Qb9;rw [if_neg h1,if_neg h2])
   clear h1 h2
   go_in
   go_wp2_with (go_at_call 74;refine (Qei _ _).mono ?_;rintro e w' ⟨rfl,hw⟩;obtain rfl:=hw.symm)
   go_ret;exact ⟨by rw [HC.out];first | done | rfl,rfl⟩
theorem Qsy (l:List Int) (k:Nat) (x:Int) (h:l[k]?=some x):orN (l.drop k)=if x≠0 then x else orN (l.drop (k+1)):=by
 have hk:=(Bm.1 h).1
 have e:l.drop k=x :: l.drop (k+1):=by
  rw [Cs hk]
  congr 1
  exact (Bm.1 h).2
 rw [e,orN]
theorem Qo3 (l:List Int) (g n:Nat) (T:TypeId) (w:World) (hr:Row w g T (l.map (Value.int .i64))) (hn:n=l.length) (hl:n≤100) :
  Calls prog 41 #[.slice (some ⟨g,0,none⟩) n n] w fun e w'=>e=.returned (Bb (orN l))∧w'=w:=by
 have HR:=hid hr;have HL:=hid hn;clear hr hn
 go_in
 go_wp2
 go_loop [5,8] (fun _ i=>∃ k:Nat,k≤n∧i=Bb (k:Int)∧Hid (orN l=orN (l.drop k))) (fun _ i=>n-(intOf i).toNat)
 case atStart=>exact ⟨0,by omega,rfl,hid rfl⟩
 case round =>
  obtain ⟨k,hk,rfl,HT⟩:=hrel
  by_cases m:k<n
  ·have hlt':(k:Int)<(n:Int):=by omega
   obtain ⟨x,hx⟩:∃ x,l[k]?=some x:=⟨l[k]'(by rw [← HL.out];exact m),Bk _⟩
   have c0:w.cell? ⟨g,k,none⟩=some (Bb x):=by rw [HR.out.cell,Bs,hx];rfl
   have b:=hid (Qsy l k x hx);have HX:=hid hx;clear hx
   by_cases hz:x=0
   ·subst hz
    have j:=hid (show orN l=orN (l.drop (k+1)) by rw [HT.out,b.out,if_neg (by simp)])
    have e0:((0:Int) != 0)=false:=by simp
    clear b HX;go_wp2
    go_round
    case rel=>exact ⟨k+1,by omega,by go_num,j⟩
    case measure=>simp [intOf];omega
   ·have e0:(x != 0)=true:=by simpa using hz
    have j:=hid (show orN l=x by rw [HT.out,b.out,if_pos hz])
    clear hz b HX;go_wp2;go_ret;exact ⟨by rw [j.out];first | done | rfl,rfl⟩
  ·have hge:decide ((k:Int)<(n:Int))=false:=by simp;omega
   have HE:=hid (show orN l=0 by rw [HT.out,CI (by rw [← HL.out];omega)];rfl)
   go_wp2;go_ret;exact ⟨by rw [HE.out];first | done | rfl,rfl⟩
theorem Quo (l:List Int) (g n:Nat) (T:TypeId) (w:World) (hr:Row w g T (l.map (Value.int .i64))) (hn:n=l.length) (hl:n≤100) :
  Calls prog 16 #[.slice (some ⟨g,0,none⟩) n n] w fun e w'=>e=.returned (Bb (orN l))∧w'=w:=by
 have HR:=hid hr;have HL:=hid hn;clear hr hn
 go_in
 go_wp2
 go_loop [5,8] (fun _ i=>∃ k:Nat,k≤n∧i=Bb (k:Int)∧Hid (orN l=orN (l.drop k))) (fun _ i=>n-(intOf i).toNat)
 case atStart=>exact ⟨0,by omega,rfl,hid rfl⟩
 case round =>
  obtain ⟨k,hk,rfl,HT⟩:=hrel
  by_cases m:k<n
  ·have hlt':(k:Int)<(n:Int):=by omega
   obtain ⟨x,hx⟩:∃ x,l[k]?=some x:=⟨l[k]'(by rw [← HL.out];exact m),Bk _⟩
   have c0:w.cell? ⟨g,k,none⟩=some (Bb x):=by rw [HR.out.cell,Bs,hx];rfl
   have b:=hid (Qsy l k x hx);have HX:=hid hx;clear hx
   by_cases hz:x=0
   ·subst hz
    have j:=hid (show orN l=orN (l.drop (k+1)) by rw [HT.out,b.out,if_neg (by simp)])
    have e0:((0:Int) != 0)=false:=by simp
    clear b HX;go_wp2
    go_round
    case rel=>exact ⟨k+1,by omega,by go_num,j⟩
    case measure=>simp [intOf];omega
   ·have e0:(x != 0)=true:=by simpa using hz
    have j:=hid (show orN l=x by rw [HT.out,b.out,if_pos hz])
    clear hz b HX;go_wp2;go_ret;exact ⟨by rw [j.out];first | done | rfl,rfl⟩
  ·have hge:decide ((k:Int)<(n:Int))=false:=by simp;omega
   have HE:=hid (show orN l=0 by rw [HT.out,CI (by rw [← HL.out];omega)];rfl)
   go_wp2;go_ret;exact ⟨by rw [HE.out];first | done | rfl,rfl⟩
def QeL (a b:ByteArray):Int:=Lib.compareBytes a.data.toList b.data.toList
theorem Qkv (a b:ByteArray) (w:World):Calls prog 45 #[.string a,.string b] w fun e w'=>e=.returned (Bb (QeL a b))∧w'=w:=Go.Proofs.Any.strings_Compare laysStr106 a b w
def Qi4 (l:List Int) (X:Value) (W:World):Prop:=∃ g,X=.slice (some ⟨g,0,none⟩) l.length l.length∧Row W g 3 (l.map (Value.int .i64))
theorem Qi4.stay (l:List Int):Yq (Qi4 l):=fun _ _ _ hb ⟨g,e,h⟩=>⟨g,e,h.below hb h.lt⟩
theorem QbM (a b:Mk) (oa ob:Option Addr) (ca cb:Nat) (w:World):Calls prog 26 #[.agg #[Bb a.chan,Bb a.seq,.slice oa a.dig.length ca],.agg #[Bb b.chan,Bb b.seq,.slice ob b.dig.length cb]] w fun e w'=>e=.returned (Bb (orN [Qb9 a.chan b.chan,Qb9 a.seq b.seq]))∧Bd w w':=by
 go_in
 go_upto_region 1 with fail
 refine QdQ ?_;intro w0 F hs;have HF:=hid F;clear F hs;apply QJ (by kernel_rfl) (fun W hb=>And.intro (HF.out.go hb).r0.cell (HF.out.go hb).r1.cell) (by kernel_rfl)
 ·intro σ;simp [Ql];exact rfl
 iterate 2 (
  iterate 4 (apply RK.val rfl;· intro σ W hb hc ⟨hd,hu⟩;simp at hd hu;go_simp;exact rfl)
  apply RK.callV rfl
  ·intro σ W hb hc ⟨hd,hu⟩;simp at hd hu;go_simp;exact ⟨rfl,rfl⟩
  ·intro W hb hc;exact (Qkt _ _ W).mono fun e w' h=>⟨h.1,h.2 ▸ Bi _ _⟩)
 apply RK.new (Qi4 [Qb9 a.chan b.chan,Qb9 a.seq b.seq]) (Qi4.stay _) rfl
 ·intro σ W hb hc ⟨hd,hu⟩;simp at hd hu
  exact ⟨_,_,by go_simp <;> exact rfl,(Bi _ _).alloc (Bj _) _,W.heap.size,rfl,Row.new _ _ _⟩
 apply RK.callG _ (Yq.eq (Bb (orN [Qb9 a.chan b.chan,Qb9 a.seq b.seq]))) rfl
 ·intro σ W hb hc ⟨hd,hu⟩;simp at hd hu
  obtain ⟨g,e,h⟩:=hd.1;refine ⟨_,_,by go_simp <;> first | exact rfl | exact ⟨rfl,rfl⟩,(Qo3 _ g 2 3 W h rfl (by decide)).mono ?_⟩
  rintro e w' ⟨rfl,rfl⟩;exact ⟨_,rfl,Bi _ _,rfl⟩
 apply RK.val rfl;· intro σ W hb hc ⟨hd,hu⟩;simp at hd hu;go_simp;exact rfl
 intro σ W hb _;simp only [JE,Bv,By,Nat.reduceAdd];intro hF;obtain ⟨-,-,-,-,-,-,-,-,-,-,-,-,j,-⟩:=hF;have HB:=hid (HF.out.go hb).b;clear hb;rw [j];go_wp2;go_ret;exact ⟨rfl,HB.out⟩
theorem Qbm (a b:Pu) (w:World):Calls prog 30 #[.agg #[.string a.owner,.string a.denom,.int .u64 (a.amount:Int)],.agg #[.string b.owner,.string b.denom,.int .u64 (b.amount:Int)]] w fun e w'=>e=.returned (Bb (orN [QeL a.owner b.owner,QeL a.denom b.denom]))∧Bd w w':=by
 go_in
 go_upto_region 1 with fail
 refine QdQ ?_;intro w0 F hs;have HF:=hid F;clear F hs;apply QJ (by kernel_rfl) (fun W hb=>And.intro (HF.out.go hb).r0.cell (HF.out.go hb).r1.cell) (by kernel_rfl)
 ·intro σ;simp [Ql];exact rfl
 iterate 2 (
  iterate 4 (apply RK.val rfl;· intro σ W hb hc ⟨hd,hu⟩;simp at hd hu;go_simp;exact rfl)
  apply RK.callV rfl
  ·intro σ W hb hc ⟨hd,hu⟩;simp at hd hu;go_simp;exact ⟨rfl,rfl⟩
  ·intro W hb hc;exact (Qkv _ _ W).mono fun e w' h=>⟨h.1,h.2 ▸ Bi _ _⟩)
 apply RK.new (Qi4 [QeL a.owner b.owner,QeL a.denom b.denom]) (Qi4.stay _) rfl
 ·intro σ W hb hc ⟨hd,hu⟩;simp at hd hu
  exact ⟨_,_,by go_simp <;> exact rfl,(Bi _ _).alloc (Bj _) _,W.heap.size,rfl,Row.new _ _ _⟩
 apply RK.callG _ (Yq.eq (Bb (orN [QeL a.owner b.owner,QeL a.denom b.denom]))) rfl
 ·intro σ W hb hc ⟨hd,hu⟩;simp at hd hu
  obtain ⟨g,e,h⟩:=hd.1;refine ⟨_,_,by go_simp <;> first | exact rfl | exact ⟨rfl,rfl⟩,(Qo3 _ g 2 3 W h rfl (by decide)).mono ?_⟩
  rintro e w' ⟨rfl,rfl⟩;exact ⟨_,rfl,Bi _ _,rfl⟩
 apply RK.val rfl;· intro σ W hb hc ⟨hd,hu⟩;simp at hd hu;go_simp;exact rfl
 intro σ W hb _;simp only [JE,Bv,By,Nat.reduceAdd];intro hF;obtain ⟨-,-,-,-,-,-,-,-,-,-,-,-,j,-⟩:=hF;have HB:=hid (HF.out.go hb).b;clear hb;rw [j];go_wp2;go_ret;exact ⟨rfl,HB.out⟩
theorem QhI (a b:Mk):Qw a b=decide (orN [Qb9 a.chan b.chan,Qb9 a.seq b.seq]<0):=by
 unfold Qw orN Qb9
 by_cases h1:a.chan<b.chan
 ·simp [h1]
 ·by_cases h2:b.chan<a.chan
  ·have:¬ a.chan=b.chan:=by omega
   simp [h1,h2,this]
  ·have e:a.chan=b.chan:=by omega
   by_cases h3:a.seq<b.seq
   ·simp [orN,e,h3]
   ·by_cases h4:b.seq<a.seq <;> simp [orN,e,h3,h4]
theorem Qac:∀ (a b:List UInt8),Op.bytesLess a b=decide (Lib.compareBytes a b<0)∧(Lib.compareBytes a b=0↔a=b)
 | [],[]=>⟨rfl,by simp [Lib.compareBytes]⟩
 | [],y :: b=>⟨rfl,by simp [Lib.compareBytes]⟩
 | x :: a,[]=>⟨rfl,by simp [Lib.compareBytes]⟩
 | x :: a,y :: b=>by
  obtain ⟨h1,h2⟩:=Qac a b;unfold Op.bytesLess Lib.compareBytes
  by_cases g1:x<y
  ·have:x≠y:=fun e=>by subst e;exact absurd g1 (UInt8.lt_irrefl x)
   simp [g1,this]
  ·by_cases g2:y<x
   ·have:x≠y:=fun e=>by subst e;exact absurd g2 (UInt8.lt_irrefl x)
    simp [g1,g2,this]
   ·have e:x=y:=by
     have a1:¬ x.toNat<y.toNat:=g1;have a2:¬ y.toNat<x.toNat:=g2;exact UInt8.toNat_inj.1 (by omega)
    subst e;simp [g1,h1,h2]
theorem QhJ (a b:Pu):QO a b=decide (orN [QeL a.owner b.owner,QeL a.denom b.denom]<0):=by
 have e:∀ x:ByteArray,x.toList=x.data.toList:=fun x=>by rw [ByteArray.toList_eq]
 obtain ⟨h1,h2⟩:=Qac a.owner.data.toList b.owner.data.toList;obtain ⟨h3,h4⟩:=Qac a.denom.data.toList b.denom.data.toList
 have h5:a.owner=b.owner↔a.owner.data.toList=b.owner.data.toList:=by
  constructor
  ·intro h;rw [h]
  ·intro h;exact ByteArray.ext (Array.toList_inj.1 h)
 unfold QO QjG QeL;rw [e,e,e,e,h1,h3]
 by_cases z:Lib.compareBytes a.owner.data.toList b.owner.data.toList=0
 ·have:=h5.2 (h2.1 z)
  rw [BB this]
  by_cases z2:Lib.compareBytes a.denom.data.toList b.denom.data.toList=0 <;> simp [orN,z,z2]
 ·have:¬ a.owner=b.owner:=fun h=>z (h2.2 (h5.1 h))
  rw [BD this];simp [orN,z]
structure AtU (l:List Pu) (o d:ByteArray) (i:Nat) (fd:Bool):Prop where
 le:i≤l.length
 lo:∀ t p,t<i→l[t]?=some p→QO p ⟨o,d,0⟩=true
 hi:∀ t p,i≤t→l[t]?=some p→QO p ⟨o,d,0⟩=false
 fd:fd=true↔∃ p,l[i]?=some p∧p.owner=o∧p.denom=d
def Qrx (a:Pu) (o d:ByteArray):Int:=orN [QeL a.owner o,QeL a.denom d]
theorem Qhd (a:Pu) (o d:ByteArray):Qrx a o d<0↔QO a ⟨o,d,0⟩=true:=by
 rw [QhJ];simp [Qrx]
theorem QpJ (a b:ByteArray):QeL a b=0↔a=b:=by
 unfold QeL;rw [(Qac _ _).2]
 constructor
 ·intro h;exact ByteArray.ext (Array.toList_inj.1 h)
 ·intro h;rw [h]
theorem QpK (a:Pu) (o d:ByteArray):Qrx a o d=0↔a.owner=o∧a.denom=d:=by
 unfold Qrx;rw [JG];simp [QpJ]
def Qq9 (l:List Pu) (o d:ByteArray) (e:Ending):Prop:=∃ i fd,AtU l o d i fd∧e=.returned (.tuple #[Bb (i:Nat),.bool fd])
theorem Qmu (l:List Pu) (o d:ByteArray) (sv:Value) (N:Nat) (w:World) (hN:N≤w.heap.size) (hl:Qt PuR 3 w N sv l) (hs:Qbj l) (b:l.length≤1000000) :
  Calls prog 231 #[sv,.agg #[.string o,.string d,.int .u64 0],.func (.func 30) #[] #[]] w fun e w'=>Bd w w'∧Qq9 l o d e:=by
 obtain ⟨rs,he,hr,hR⟩:=hl;refine (Qgm.2.list Qij (fun v:Pu=>Qrx v o d) l rs [.string o,.string d,.int .u64 0] hN hr (fun r h=>?_) rfl he b (List.Pairwise.imp (fun h=>?_) hs) fun i r p W hr hp hb=>?_).mono ?_
 ·obtain ⟨i,hi,rfl⟩:=Dw h
  rw [hR i _ _ (Bk hi) (Bk (by omega))];rfl
 ·simp only [Qhd];exact fun h2=>Yx h h2
 ·obtain rfl:=hR i r p hr hp
  exact Qbm p ⟨o,d,0⟩ W
 ·rintro e w' ⟨hb,i,fd,⟨h1,h2,h3,h4⟩,rfl⟩
  exact ⟨hb,i,fd,⟨h1,fun t p ht hp=>(Qhd p o d).1 (h2 t p ht hp),fun t p ht hp=>by simpa [← Int.not_lt,Qhd] using h3 t p ht hp,by simpa [QpK] using h4⟩,rfl⟩
theorem AtU.cut {l:List Pu} {o:ByteArray} {fd:Bool} (h:AtU l o d i fd) (hs:Qbj l):l.take i=Zr l o d∧(fd=true→∃ n,l[i]?=some ⟨o,d,n⟩∧Q7 l o d=n∧l.drop (i+1)=Yt l o d)∧(fd=false→Q7 l o d=0∧l.drop i=Yt l o d):=by
 have e1:l.take i=Zr l o d:=by
  unfold Zr
  conv=>rhs;rw [← CS i l,DQ]
  rw [CT.2,Cp.2,CZ]
  ·intro p hp
   obtain ⟨t,ht⟩:=De hp;rw [Co] at ht;rw [h.hi (i+t) p (by omega) ht]
   simp
  ·intro p hp
   obtain ⟨t,ht⟩:=De hp;rw [BE] at ht
   split at ht
   ·rename_i b
    exact h.lo t p b ht
   ·cases ht
 obtain ⟨s1,s2⟩:=YX l o d hs;have e2:=QeF hs o d
 have e3:l.drop i=l.filter (isU o d) ++ Yt l o d:=by
  have:=CS i l;rw [e1] at this;rw [s1] at this
  have h2:Zr l o d ++ l.drop i=Zr l o d ++ (l.filter (isU o d) ++ Yt l o d):=by
   rw [← s1] at this;rw [this];exact s1
  exact List.append_cancel_left h2
 refine ⟨e1,fun hf=>?_,fun hf=>?_⟩
 ·obtain ⟨p,hp,ho,hd⟩:=h.fd.1 hf
  have hm:p∈l.filter (isU o d):=Cf.2 ⟨Bn hp,by simp [isU,ho,hd]⟩
  rcases s2 with s2 | ⟨n,s2,-⟩
  ·rw [s2] at hm;cases hm
  ·rw [s2] at hm e3 e2
   obtain rfl:=BQ.1 hm;refine ⟨n,hp,by rw [e2];simp [Q7,isU],?_⟩
   rw [← D0,e3];rfl
 ·rcases s2 with s2 | ⟨n,s2,hn⟩
  ·rw [s2] at e3 e2
   exact ⟨e2,e3⟩
  ·rw [s2] at e3
   have:l[i]?=some ⟨o,d,n⟩:=by
    have:=Bl (fun x=>x[0]?) e3
    simpa using this
   have:=h.fd.2 ⟨_,this,rfl,rfl⟩;rw [hf] at this
   cases this
theorem Que: ∃ i,prog.info? 70=some i∧i.zero=some (Value.agg #[.string ⟨#[]⟩,.string ⟨#[]⟩,.int .u64 0])∧i.size=3∧i.bytes=40:=by
 have h:(prog.info? 70).map (fun i=>(i.zero,i.size,i.bytes))=some (some (Value.agg #[.string ⟨#[]⟩,.string ⟨#[]⟩,.int .u64 0]),3,40):=by kernel_rfl
 cases hi:prog.info? 70 with
 | none=>rw [hi] at h;cases h
 | some i=>rw [hi] at h;simp at h;exact ⟨i,rfl,h⟩
theorem QpV (n:Nat) (w:World) (hn:n≤1000000) :
  Calls prog 232 #[Bc,Bb (n:Int)] w fun e w'=>Bd w w'∧∃ v,e=.returned v∧Qf 70 3 w' w.heap.size v []:=by
 obtain ⟨i0,m,A,E,C⟩:=Que
 by_cases h0:n=0
 ·subst h0
  go_in
  go_wp2;go_ret;exact ⟨Bi _ _,_,rfl,fun _ h=>(by cases h),C9 _ _ _ _⟩
 ·obtain ⟨G,hG⟩:∃ G,G=grownCap w n 0 70:=⟨_,rfl⟩
  obtain ⟨W1,b⟩:∃ W1,W1=w.drew.alloc (.cells (Builtin.zeroCells (Value.agg #[.string ⟨#[]⟩,.string ⟨#[]⟩,.int .u64 0]).cells n ++ Builtin.zeroCells (Value.agg #[.string ⟨#[]⟩,.string ⟨#[]⟩,.int .u64 0]).cells (G-n)) 70):=⟨_,rfl⟩;have hGn:n≤G:=by rw [hG];exact Du w _ _ _
  have j:G≤maxLen:=by rw [hG];exact DJ w n 0 70 (by unfold maxLen;omega)
  have z:∀ ty,(Builtin.append_ #[26,3] ty #[Bc,Bb (n:Int)]).run prog w=.ok (.slice (some ⟨w.heap.size,0,none⟩) n G) W1:=fun ty=>by
   have h:=Lib.run_append_nil_zeros w 26 3 ty 70 i0 _ .i64 .i64 underlying26 underlying3 m A n (by omega) (by omega) (by omega) (by rw [C];omega)
   rw [h,b,← hG]
  have D:Bd w W1:=by
   rw [b];exact (show Bd w w.drew from ⟨rfl,rfl,rfl,Bj _,fun _ _=>rfl⟩).alloc (Bj _) _
  have q:Qf 70 3 W1 w.heap.size (.slice (some ⟨w.heap.size,0,none⟩) 0 G) []:=by
   refine ⟨fun _ h=>(by cases h),rfl,.inr ⟨w.heap.size,G,Builtin.zeroCells (Value.agg #[.string ⟨#[]⟩,.string ⟨#[]⟩,.int .u64 0]).cells n ++ Builtin.zeroCells (Value.agg #[.string ⟨#[]⟩,.string ⟨#[]⟩,.int .u64 0]).cells (G-n),rfl,Bj _,?_,BF _,j,?_,rfl⟩⟩
   ·rw [b]
    exact BT w.drew _
   ·rw [Ei,Dv,Dv,show (Value.agg #[.string ⟨#[]⟩,.string ⟨#[]⟩,.int .u64 0]).cells.size=3 from rfl]
    omega
  obtain ⟨B,hB⟩:∃ B,w.heap.size=B:=⟨_,rfl⟩;rw [hB] at z;clear b hG j m A E C;have b1:(0:Int)<(n:Int):=by omega
  go_in
  go_wp2_with (at_builtin;refine En _ rfl (.tmp 20) (.tmp 21) _ _ rfl _ _ rfl rfl _ _ (z _) ?_)
  go_ret;refine ⟨D,.slice (some ⟨B,0,none⟩) 0 G,rfl,?_⟩;rw [← hB];exact q
def Zz (l:List Pu):List (List Value):=l.map YO
theorem QmC (l:List Pu):∀ r∈Zz l,r.length=3∧∀ x∈r,x.oneCell'=true:=fun r hr=>by
 obtain ⟨p,-,rfl⟩:=BC.1 hr;refine ⟨rfl,fun x hx=>?_⟩
 simp [YO] at hx
 rcases hx with rfl | rfl | rfl <;> rfl
theorem Qt.recsU {l:List Pu} (h:Qt PuR 3 w N v l):Ja w N v 3 (Zz l):=by
 obtain ⟨rs,h1,h2,h3⟩:=h
 have:rs=Zz l:=by
  apply CP;intro i;unfold Zz;rw [Bs]
  cases hr:rs[i]? with
  | none =>
   rw [Dr (by have:=List.getElem?_eq_none_iff.1 hr;omega)]
   rfl
  | some r =>
   have hi:i<l.length:=by rw [← h1];exact (Bm.1 hr).1
   rw [Bk hi];have e:=h3 i r l[i] hr (Bk hi);unfold PuR at e;rw [e];rfl
 rw [← this];exact h2
theorem QoX {l:List Pu} (h:Ja w N v 3 (Zz l)):Qt PuR 3 w N v l:=⟨Zz l,by simp [Zz],h,fun i r x hr hx=>by
 unfold Zz at hr;rw [Bs,hx] at hr
 exact (Bu hr).symm⟩
def J3 (base:Nat) (w:World) (v:Value) (l:List Pu):Prop:=Qf 70 3 w base v (Zz l)
theorem J3.now {base:Nat} {l:List Pu} (h:J3 base w v l):Qt PuR 3 w w.heap.size v l:=QoX (Qf.recs h)
theorem J3.down {base base':Nat} {l:List Pu} (h:J3 base w v l) (hb:base'≤base):J3 base' w v l:=Qf.mono h hb
theorem J3.past {base:Nat} {l:List Pu} (h:J3 base w v l) (hb:Bd w w'):J3 base w' v l:=Qf.below h hb
theorem J3.nil (base:Nat) (w:World):J3 base w (Bc) []:=⟨fun _ h=>(by cases h),C9 w base 70 3⟩
theorem J3.shape {base:Nat} {l:List Pu} (h:J3 base w v l):∃ oa b,v=.slice oa l.length b∧l.length≤b:=by
 have:=Qf.shape h;simpa [Zz] using this
theorem Qhq {α:Type} {ls:List (List α)} {k:Nat} {x:List α} (h:ls[k]?=some x):(ls.take (k+1)).flatten=(ls.take k).flatten ++ x:=by
 rw [Dh,h];simp
theorem QeQ {α:Type} (ls:List (List α)) (k:Nat):(ls.take k).flatten.length≤ls.flatten.length:=by
 have:=Bl (fun x=>x.flatten.length) (CS k ls)
 simp only [CX,Br] at this;omega
theorem QlD (ls:List (List Pu)) (vs:List Value) (N g n:Nat) (w:World) (hN:N≤w.heap.size) (hm:∀ (i:Nat) l,ls[i]?=some l→∃ v,vs[i]?=some v∧Qt PuR 3 w N v l) (hr:Row w g 26 vs) (hn:ls.length=n) (h10:n≤10) (hl:ls.flatten.length≤1000) :
  Calls prog 201 #[.slice (some ⟨g,0,none⟩) n n] w fun e w'=>Bd w w'∧∃ v,e=.returned v∧J3 w.heap.size w' v ls.flatten:=by
 have HM:=hid (show ∀ (k:Nat) l W,ls[k]?=some l→Bd w W→∃ oa c,W.cell? ⟨g,k,none⟩=some (.slice oa l.length c)∧Ja W N (.slice oa l.length c) 3 (Zz l) from by
  intro k l W hk hb;obtain ⟨v,hv,A⟩:=hm k l hk;obtain ⟨oa,c,rfl,-⟩:=A.shape;refine ⟨oa,c,(hb.cell (p:=⟨g,k,none⟩) hr.lt).trans ?_,A.recsU.below (hb.mono hN)⟩;have:=hr.cell k
  rw [this,hv])
 obtain ⟨T,hT⟩:∃ T,ls.flatten.length=T:=⟨_,rfl⟩;have HG:=fun W=>QpV T W (by omega)
 go_in
 go_wp2_with fail
 go_loopw [3,11] (fun s3 m wr=>∃ k S:Nat,k≤n∧m=Bb k∧s3=Bb S∧Hid ((ls.take k).flatten.length=S)∧Hid (Bd w wr)) (fun _ m _=>n-(intOf m).toNat)
 case atStart=>exact ⟨0,0,BF _,rfl,rfl,rfl,Bi _ _⟩
 case round =>
  obtain ⟨k,S,hk,rfl,rfl,HS,HB⟩:=hrel
  by_cases b:k<n
  ·obtain ⟨x,hx⟩:∃ x,ls[k]?=some x:=⟨ls[k]'(by rw [hn];exact b),Bk _⟩
   obtain ⟨oa,c,c0,-⟩:=HM.out k x wr hx HB.out;have HT:=Bl List.length (Qhq hx);have z:=QeQ ls (k+1);rw [HT,Br,HS.out] at z;have hS:S+x.length≤1000:=Bh z hl;have hlt':(k:Int)<(n:Int):=by omega
   have G:=HB.out.size
   go_wp2_with fail
   refine ⟨⟨k+1,S+x.length,by omega,by go_num,by go_num,by rw [← HS.out,← Br];exact HT,HB.out⟩,by simp [intOf];omega⟩
  ·obtain rfl:k=n:=by omega
   have hlt':decide ((k:Int)<(k:Int))=false:=by simp
   have hS:=HS.out;rw [BA (by rw [hn];exact Bj _),hT] at hS
   subst hS
   go_upto_region 9 with fail
   have M:=hid (HG wr)
   go_wp2_with fail
   refine M.out.mono ?_;rintro e w1 ⟨aA,v1,rfl,C⟩;obtain ⟨o1,c1,rfl,-⟩:=C.shape;have I:=HB.out.trans (aA.mono HB.out.size);have Y:=C.mono HB.out.size
   go_wp2_with fail
   go_loopw [6,27] (fun s6 q wr=>∃ j:Nat,j≤k∧q=Bb j∧Hid (Qf 70 3 wr w.heap.size s6 (Zz (ls.take j).flatten))∧Hid (Bd w wr)) (fun _ q _=>k-(intOf q).toNat)
   case atStart=>exact ⟨0,BF _,rfl,Y,I⟩
   case round =>
    obtain ⟨j,hj,rfl,HR,HB⟩:=hrel;obtain ⟨o6,c6,rfl,-⟩:=HR.out.shape
    by_cases b:j<k
    ·obtain ⟨x,hx⟩:∃ x,ls[j]?=some x:=⟨ls[j]'(by rw [hn];exact b),Bk _⟩
     obtain ⟨oa,c,c0,D⟩:=HM.out j x wr hx HB.out;have HT:=Qhq hx
     have O:=hid (show (Zz (ls.take j).flatten).length+(Zz x).length≤1000000 by
      have:=QeQ ls (j+1);rw [HT,Br] at this;have:=hl;simp only [Zz,Bp]
      omega)
     have hlt':(j:Int)<(k:Int):=by omega
     have G:=HB.out.size
     go_wp2_with (at_builtin;refine Qdo QsX rfl _ _ rfl w.heap.size _ _ rfl HR.out _ _ rfl D (QmC x) O.out G ?_)
     intro v' w2 E aB hg2;have L:=HB.out.trans aB
     go_wp2_with fail
     refine ⟨⟨j+1,by omega,by go_num,?_,L⟩,by simp [intOf];omega⟩
     rw [HT];unfold Zz;rw [Cc];exact E
    ·obtain rfl:j=k:=by omega
     go_wp2;go_ret;refine ⟨HB.out,_,rfl,?_⟩;unfold J3;rw [show Zz ls.flatten=Zz (ls.take j).flatten by rw [BA (by rw [hn];exact Bj _)]]
     exact HR.out
theorem Qt.none {α:Type} {R:World→Nat→List Value→α→Prop} {k:Nat} {w:World} {N n c:Nat} {l:List α} (h:Qt R k w N (.slice none n c) l):l=[]∧n=0∧c=0:=by
 obtain ⟨rs,h1,h2,-⟩:=h;obtain ⟨rfl,h4,h5⟩:=QjV h2;exact ⟨List.eq_nil_of_length_eq_zero (by simpa using h1.symm),h4,h5⟩
theorem Qt.between {α:Type} {R:World→Nat→List Value→α→Prop} {k:Nat} {w:World} {N n ca i j:Nat} {oa:Option Addr} {l:List α} (h:Qt R k w N (.slice oa n ca) l) (hij:i≤j) (hj:j≤n):Qt R k w N (sliced oa i j ca k) ((l.drop i).take (j-i)):=by
 obtain ⟨oa',ca',he,hca⟩:=h.shape
 injection he with e1 e2 e3
 subst e1 e2 e3
 by_cases h0:i=j
 ·subst h0
  rw [DE,CJ]
  cases oa with
  | none =>
   obtain ⟨rfl,h2,rfl⟩:=h.none;obtain rfl:i=0:=by omega
   simp only [sliced,Option.map_none,DE];exact Qt.nil _ _ _ _
  | some a=>exact ⟨[],rfl,.inr (.inl ⟨if ca=i then a else a.add (i*k),ca-i,by simp only [sliced,DE];split <;> simp,rfl⟩),fun _ _ _ h=>by simp at h⟩
 ·obtain ⟨rs,h1,h2,h3⟩:=h
  refine ⟨(rs.drop i).take (j-i),by simp [h1],?_,fun t r x hr hx=>?_⟩
  ·rcases h2 with ⟨e,rfl⟩ | ⟨a,z,e,rfl⟩ | ⟨b,m,z,e,hc,hh⟩
   ·simp at h1;omega
   ·simp at h1;omega
   ·injection e with e1 e2 e3
    subst e1 e3;have C:¬ ca=i:=by omega
    refine .inr (.inr ⟨b,m+i*k,ca-i,?_,by simp;omega,fun t r hr=>?_⟩)
    ·rw [C2,Dd,DI (by omega)]
     simp [sliced,C,Addr.add]
    ·rw [BE] at hr
     split at hr
     ·rw [Co] at hr
      obtain ⟨g1,g2⟩:=hh (i+t) r hr;refine ⟨g1,fun q x hx=>?_⟩
      have:=g2 q x hx;rw [show m+(i+t)*k+q=m+i*k+t*k+q by rw [C0];omega] at this
      exact this
     ·cases hr
  ·rw [BE] at hr hx
   split at hr
   ·rename_i A
    rw [if_pos A] at hx;rw [Co] at hr hx;exact h3 _ r x hr hx
   ·cases hr
theorem QkD: prog.underlying 26=some (.slice (prog.elem 26)):=by kernel_rfl
theorem Qtc (w:World):(sizeOf (prog.elem 26)).run prog w=.ok 3 w:=by kernel_rfl
theorem QhW {l:List Pu} (h:Qt PuR 3 w N (.slice oa n g) l) (i:Nat) (hi:i≤n):∃ o c,(∀ w',(Instr.sliceAt 26 (.slice oa n g) (some (Bb (i:Int))) none none).run prog w'=.ok (.slice o (n-i) c) w')∧Qt PuR 3 w N (.slice o (n-i) c) (l.drop i):=by
 have hn:n=l.length:=by obtain ⟨oa',ca',he,_⟩:=h.shape;simp at he;exact he.2.1
 have:=h.between hi (Bj _);rw [BA (by simp;omega)] at this
 refine ⟨_,_,fun w'=>?_,this⟩
 rw [Eb w' _ _ _ _ _ QkD,run_slice_l w' _ _ _ _ QkD .i64 (i:Int) (by omega) (by omega),Qtc]
 rfl
theorem QsM {l:List Pu} (h:Qt PuR 3 w N (.slice oa n g) l) (j:Nat) (hj:j≤n):∃ o c,(∀ w',(Instr.sliceAt 26 (.slice oa n g) none (some (Bb (j:Int))) none).run prog w'=.ok (.slice o j c) w')∧Qt PuR 3 w N (.slice o j c) (l.take j):=by
 have hc:n≤g:=by obtain ⟨oa',ca',he,hc⟩:=h.shape;simp at he;omega
 have:=h.between (BF j) hj;rw [BS,Nat.sub_zero] at this;refine ⟨_,_,fun w'=>?_,this⟩
 rw [Eb w' _ _ _ _ _ QkD,run_slice_h w' _ _ _ _ QkD .i64 (j:Int) (by omega) (by omega),Qtc]
 rfl
theorem Qjw (l:List Pu) (o d:ByteArray) (sv:Value) (N:Nat) (w:World) (hN:N≤w.heap.size) (hl:Qt PuR 3 w N sv l) (hs:Qbj l) (j:l.length≤1000000) :
  Calls prog 200 #[sv,.string o,.string d] w fun e w'=>Bd w w'∧Qq9 l o d e:=by
 obtain ⟨oa,ca,rfl,hca⟩:=hl.shape;have HC:=hid (Qmu l o d _ N w hN hl hs j);clear hl hs
 go_in
 go_wp2_with fail
 refine HC.out.mono ?_;rintro e w2 ⟨hb,i,fd,b,rfl⟩;have HB:=hid hb;have m:=hid b;clear hb b;go_wp2;go_ret2;exact ⟨HB.out,i,fd,m.out,rfl⟩
theorem QgU (l:List Pu) (o d:ByteArray) (sv:Value) (N:Nat) (w:World) (hN:N≤w.heap.size) (hl:Qt PuR 3 w N sv l) (hs:Qbj l) (j:l.length≤1000000) :
  Calls prog 160 #[sv,.string o,.string d] w fun e w'=>e=.returned (.int .u64 (Q7 l o d:Int))∧Bd w w':=by
 have HC:=Qjw l o d sv N w hN hl hs j;obtain ⟨oa,ca,rfl,hca⟩:=hl.shape;generalize hn:l.length=n at *
 go_in
 go_wp2_with fail
 refine HC.mono ?_;rintro e w2 ⟨hb,i,fd,m,rfl⟩;obtain ⟨-,h1,h2⟩:=m.cut hs
 cases fd with
 | true =>
  obtain ⟨x,hx,ha,-⟩:=h1 rfl;have hil:i<n:=by rw [← hn];exact (Bm.1 hx).1
  obtain ⟨b,f,rfl,hbN,c0,c1,c2⟩:=hl.purse (by omega) hx (hb.mono hN)
  go_wp2;go_ret;exact ⟨by rw [ha];rfl,hb⟩
 | false =>
  have HA:=hid (h2 rfl).1;go_wp2;go_ret;exact ⟨by rw [HA.out];rfl,hb⟩
theorem Qf0 (l:List Pu) (o d:ByteArray) (x:Nat) (T:Nat) (aF sv:Value) (N:Nat) (w:World) (hN:N≤w.heap.size) (hl:Qt PuR 3 w N sv l) (hs:Qbj l) (aI:l.length≤60)
  (aJ:∀ (aH:Array Value) (W:World),(callFunc T aH).run prog W=.ok (.enter T aH) W) (aR:∀ W,Bd w W→Calls prog T #[.int .u64 (Q7 l o d:Int),aF] W fun e w'=>e=.returned (.int .u64 (x:Int))∧Bd W w') :
  Calls prog 161 #[sv,.string o,.string d,.func (.func T) #[] #[aF]] w fun e w'=>Bd w w'∧∃ v,e=.returned v∧J3 w.heap.size w' v (QcL l o d x):=by
 have HC:=Qjw l o d sv N w hN hl hs (by omega)
 have HS:=hid hs;have HL:=hid hl;have aP:=hid aR;have aG:=hid aJ;obtain ⟨oa,ca,rfl,hca⟩:=hl.shape;have aQ:=hid aI;generalize hn:l.length=n at *;have HN:=hid hn;clear hl hs hn aR aJ aI
 go_in
 go_wp2_with fail
 refine HC.mono ?_;rintro e w1 ⟨hb,i,fd,aO,rfl⟩;obtain ⟨h0,h1,h2⟩:=aO.cut HS.out;have aS:i≤n:=by rw [← HN.out];exact aO.le
 have HB:=hid hb;obtain ⟨o1,c1,aY,aA⟩:=QsM HL.out i aS;obtain ⟨o2,c2,aZ,aT⟩:=QhW HL.out i aS;rw [h0] at aA;have aM:=aA.below PuR.stays (HB.out.mono hN);have O:=aT.below PuR.stays (HB.out.mono hN);have HH:=And.intro h1 h2;clear HC hb aO h0 h1 h2 aA aT
 go_upto_region 2 with fail
 apply QJ (C:=fun _=>True) (by kernel_rfl) (fun _ _=>trivial) (by kernel_rfl)
 ·intro σ;simp [Ql];exact rfl
 iterate 8 (apply RK.val rfl;· intro σ W hb hc hd;simp [Has] at hd;go_simp;exact rfl)
 intro σ W hb _ hF;simp [JE] at hF;go_simp;clear hF;have b:=HB.out.trans (hb.mono HB.out.size);replace aM:=hid (aM.below PuR.stays (hb.mono (Bh hN HB.out.size)));replace O:=hid (O.below PuR.stays (hb.mono (Bh hN HB.out.size)));clear hb aY aZ HB;have D:=hid (Bh hN b.size)
 have I:=hid (show ∀ (w3:World) (o3:Option Addr) (n3 c3:Nat) (vs:List Value) (g:Nat),Bd W w3→Qt PuR 3 w3 w3.heap.size (.slice o3 n3 c3) (Yt l o d)→Row w3 g 26 vs→(∀ p,vs=[.slice o1 i c1,p,.slice o3 n3 c3]→Qt PuR 3 w3 w3.heap.size p (Qc8 o d x)→Calls prog 201 #[.slice (some ⟨g,0,none⟩) 3 3] w3 fun e w'=>Bd w3 w'∧∃ v,e=.returned v∧J3 w3.heap.size w' v (QcL l o d x)) from by
  intro w3 o3 n3 c3 vs g M aB hr p a3 aX;subst a3;have hz:=M.size
  have:=QlD [Zr l o d,Qc8 o d x,Yt l o d] _ w3.heap.size g 3 w3 (Bj _) (fun i m hi=>by
   match i,hi with
   | 0,hi=>obtain rfl:=Bu hi;exact ⟨_,rfl,(aM.below PuR.stays (M.mono D.out)).mono PuR.stays (by have:=D.out;omega)⟩
   | 1,hi=>obtain rfl:=Bu hi;exact ⟨_,rfl,aX⟩
   | 2,hi=>obtain rfl:=Bu hi;exact ⟨_,rfl,aB⟩) hr rfl (by decide) (by
    have h1:=Bl List.length (YX l o d HS.out).1;have h2:=aQ.out;have h3:=HN.out;have h4:(Qc8 o d x).length≤1:=by unfold Qc8;split <;> simp
    simp only [Br] at h1;simp
    omega)
  have e:[Zr l o d,Qc8 o d x,Yt l o d].flatten=QcL l o d x:=by simp [QcL]
  rw [e] at this
  exact this)
 have GO:∃ (h3:Nat),Q7 l o d=h3:=⟨_,rfl⟩;obtain ⟨h3,e3⟩:=GO;have aE:=hid e3;clear e3
 cases fd
 ·obtain ⟨ha,hd⟩:=HH.2 rfl
  obtain rfl:h3=0:=by rw [← aE.out];exact ha
  have L:=hid O;rw [hd] at L;clear ha hd O HH;generalize n-i=n3 at *;generalize c2=c3 at *;generalize o2=o3 at *;have aL:∀ W,Bd w W→Calls prog T #[.int .u64 0,aF] W fun e w'=>e=.returned (.int .u64 (x:Int))∧Bd W w':=fun W hb=>by have:=aP.out W hb;rw [aE.out] at this;exact this
  go_wp2_with fail
  rw [aG.out,DN];refine (aL _ b).mono ?_;rintro e w3 ⟨rfl,M⟩;have S:=hid M;clear M
  by_cases aD:x=0
  ·subst aD
   go_wp2_with fail
   refine Qb4 ?_;intro w4 E G;have q:=S.out.trans (G.mono S.out.size);refine (I.out w4 o3 n3 c3 _ _ q ((L.out.below PuR.stays (q.mono D.out)).mono PuR.stays (Bh D.out q.size)) E _ rfl (Qt.nil _ _ _ _)).mono ?_;rintro e w5 ⟨A,v,rfl,hv⟩;have HV:=hid (hv.down (b.trans (q.mono b.size)).size);have z:=hid (b.trans ((q.trans (A.mono q.size)).mono b.size));clear hv A E G;go_wp2;go_ret;exact ⟨z.out,v,rfl,HV.out⟩
  ·have a4:decide ((0:Int)<(x:Int))=true:=by simp;omega
   have hx2:decide (0<x)=true:=by simp;omega
   go_upto_region 10 with fail
   refine QtX ?_;intro w4 E G;have q:=hgo S G
   have aN:=hid (show Qt PuR 3 w4 w4.heap.size (.slice (some ⟨w3.heap.size,0,none⟩) 1 1) (Qc8 o d x) from by
    unfold Qc8;rw [if_neg aD]
    exact QoX (.inr (.inr ⟨w3.heap.size,0,1,rfl,Bj _,fun i r hi=>by
     match i,hi with
     | 0,hi =>
      obtain rfl:=Bu hi;refine ⟨E.lt,fun j y hy=>?_⟩
      have:=E.cell j;simp only [CR,Bq];rw [this]
      exact hy⟩)))
   clear E G
   go_wp2_with fail
   refine Qb4 ?_;intro w5 aC A;have z:=hgo q A;refine (I.out w5 o3 n3 c3 _ _ z.out ((L.out.below PuR.stays (z.out.mono D.out)).mono PuR.stays (Bh D.out z.out.size)) aC _ rfl ((aN.out.below PuR.stays A).mono PuR.stays A.size)).mono ?_;rintro e w6 ⟨Y,v,rfl,hv⟩;have HV:=hid (hv.down (b.trans (z.out.mono b.size)).size);have aK:=hid (b.trans ((z.out.trans (Y.mono z.out.size)).mono b.size));clear hv Y aC A;go_wp2;go_ret;exact ⟨aK.out,v,rfl,HV.out⟩
 ·obtain ⟨y,hy,aV,hd⟩:=HH.1 rfl
  obtain rfl:h3=y:=by rw [← aE.out];exact aV
  have hil:i<n:=by rw [← HN.out];exact (Bm.1 hy).1
  obtain ⟨b2,f2,rfl,aW,z0,z1,z2⟩:=O.purse (k:=0) (by omega) (by rw [Co];exact hy) (Bi _ _)
  obtain ⟨o3,c3,aU,aB⟩:=QhW O 1 (by omega)
  rw [D0,hd] at aB;have L:=hid aB;have aL:=hid (show ∀ W,Bd w W→Calls prog T #[.int .u64 (h3:Int),aF] W fun e w'=>e=.returned (.int .u64 (x:Int))∧Bd W w' from fun W hb=>by have:=aP.out W hb;rw [aE.out] at this;exact this)
  have hlt2:0<n-i:=by omega
  clear hy aV hd aB z0 z1 O HH;generalize n-i=m at *;generalize aA:m-1=n3 at *;have HZ:=hid (fun X (hX:Bd W X)=>(hX.cell (p:=⟨b2,f2+0*3+2,none⟩) (Bt aW D.out)).trans z2)
  simp only [CR,BK] at HZ;have hr3':∀ w',(Instr.sliceAt 26 (.slice (some ⟨b2,f2,none⟩) m c2) (some (Bb 1)) none none).run prog w'=.ok (.slice o3 n3 c3) w':=aU;clear z2 aU aA
  go_upto_region 5 with fail
  apply QJ (by kernel_rfl) (fun X hX=>HZ.out X hX) (by kernel_rfl)
  ·intro σ;simp [Ql];exact rfl
  iterate 8 (apply RK.val rfl;· intro σ W hb hc hd;simp [Has] at hd;go_simp;exact rfl)
  clear hr3';intro σ W' hb _ hF;simp [JE] at hF;go_simp;clear hF;replace b:=hid (b.trans (hb.mono b.size));replace L:=hid (L.out.below PuR.stays (hb.mono D.out));replace I:=hid (fun w3 o3 n3 c3 vs g (h:Below W'.heap.size W' w3)=>I.out w3 o3 n3 c3 vs g (hb.trans (h.mono hb.size)))
  replace D:=hid (Bh D.out hb.size);clear hb
  go_wp2_with fail
  rw [aG.out,DN];refine (aL.out _ b).mono ?_;rintro e w3 ⟨rfl,M⟩;have S:=hid M;clear M
  by_cases aD:x=0
  ·subst aD
   go_wp2_with fail
   refine Qb4 ?_;intro w4 E G;have q:=hgo S G;refine (I.out w4 o3 n3 c3 _ _ q.out ((L.out.below PuR.stays (q.out.mono D.out)).mono PuR.stays (Bh D.out q.out.size)) E _ rfl (Qt.nil _ _ _ _)).mono ?_;rintro e w5 ⟨A,v,rfl,hv⟩;have HV:=hid (hv.down (b.trans (q.out.mono b.size)).size);have z:=hid (b.trans ((q.out.trans (A.mono q.out.size)).mono b.size));clear hv A E G;go_wp2;go_ret;exact ⟨z.out,v,rfl,HV.out⟩
  ·have a4:decide ((0:Int)<(x:Int))=true:=by simp;omega
   go_upto_region 10 with fail
   refine QtX ?_;intro w4 E G;have q:=hgo S G
   have aN:=hid (show Qt PuR 3 w4 w4.heap.size (.slice (some ⟨w3.heap.size,0,none⟩) 1 1) (Qc8 o d x) from by
    unfold Qc8;rw [if_neg aD]
    exact QoX (.inr (.inr ⟨w3.heap.size,0,1,rfl,Bj _,fun i r hi=>by
     match i,hi with
     | 0,hi =>
      obtain rfl:=Bu hi;refine ⟨E.lt,fun j y hy=>?_⟩
      have:=E.cell j;simp only [CR,Bq];rw [this]
      exact hy⟩)))
   clear E G
   go_wp2_with fail
   refine Qb4 ?_;intro w5 aC A;have z:=hgo q A;refine (I.out w5 o3 n3 c3 _ _ z.out ((L.out.below PuR.stays (z.out.mono D.out)).mono PuR.stays (Bh D.out z.out.size)) aC _ rfl ((aN.out.below PuR.stays A).mono PuR.stays A.size)).mono ?_;rintro e w6 ⟨Y,v,rfl,hv⟩;have HV:=hid (hv.down (b.trans (z.out.mono b.size)).size);have aK:=hid (b.trans ((z.out.trans (Y.mono z.out.size)).mono b.size));clear hv Y aC A;go_wp2;go_ret;exact ⟨aK.out,v,rfl,HV.out⟩
end Go.Proofs.YtnedafiokmjkkaaGreatDoor
