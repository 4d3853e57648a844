/- What comes of any message. -/
import Derived.Test.YtnedafiokmjkkaaGreatDoorsaClFollow
import Derived.Test.YtnedafiokmjkkaaGreatDoorsaBkSafe
namespace Go.Proofs.YtnedafiokmjkkaaGreatDoor
open Tryz
set_option maxRecDepth 1000000
set_option maxHeartbeats 8000000
open Go.RowKit
variable {w w1:World} {g k:Nat} {t:TypeId} {cs:List Value} {P:Program} {Q:Exit→Act→World→Prop} {a:Act} {c:Cl}
theorem Qq4 {l:List Pc} {x:Bg} (h:YC l=.ok x):x.length≤20000:=by
 unfold YC at h
 split at h
 ·cases h
 ·refine (Qph _ _ _ _ h).2.2 ?_
  have:=Qc7 10 l.length (by simp;omega) (by omega)
  omega
theorem Qg4 (t:Tr):(QF t).length≤20000:=by
 unfold QF
 split
 ·rename_i x hx
  exact Qq4 hx
 ·simp
def ZW (o:ByteArray):Bool:=Lib.hasPrefix o.data.toList [35]
def trN (t:Tr) (l:List ByteArray):Int:=if Jg (QF t)≠0 then Jg (QF t) else if l.any ZW=true then 7 else 0
structure Out where
 st:St
 err:Int
 num:Int
 pk:Pk
abbrev Y7 (s:St) (e:Int):Out:=⟨s,e,0,Pk.none⟩
def Qaz (s:St) (t:Tr):Int:=if trN t [t.sender,t.reader]≠0 then trN t [t.sender,t.reader] else Qas s.purses t.sender t.reader t.denom t.amount
def Qjz (s:St) (t:Tr):St:=if Qaz s t=0 then { s with purses:=J9 s.purses t.sender t.reader t.denom t.amount } else St.none
def Qhs (s:St) (m:Ms):Out:=Y7 (Qjz s m.tr) (Qaz s m.tr)
def Qe4 (n:Int):ByteArray:=⟨(Lib.itoa n).toArray⟩
def QcF (n:Int):ByteArray:=⟨#[35]⟩ ++ Qe4 n
def Zb (n:Int):ByteArray:=Qe4 n ++ ⟨#[47]⟩
def Qb6 (d:ByteArray) (n:Int):Bool:=Lib.hasPrefix d.data.toList (Zb n).data.toList
def Qhj (d:ByteArray) (n:Int):ByteArray:=d.extract (Zb n).size d.size
def ZZ (l:List Pu) (ch other:Int) (t:Tr):Int:=if Qb6 t.denom other=true then Qas l (QcF ch) t.reader (Qhj t.denom other) t.amount else Qbs l t.reader (Zb ch ++ t.denom) t.amount
def Qa0 (l:List Pu) (ch other:Int) (t:Tr):List Pu:=if Qb6 t.denom other=true then J9 l (QcF ch) t.reader (Qhj t.denom other) t.amount else QaD l t.reader (Zb ch ++ t.denom) t.amount
theorem Qqs (n:Nat):Qe4 (n:Int)=QfF n:=by unfold Qe4 QfF;rw [Lib.itoa_nonneg]
theorem QpB (n:Nat):Zb (n:Int)=ZQ n:=by unfold Zb ZQ;rw [Qqs]
theorem QfQ (n:Int) (h : -9223372036854775808≤n∧n≤9223372036854775807):(Qe4 n).size≤21:=by
 have:=Lib.itoa_length_le n h.1 h.2;unfold Qe4;simpa [ByteArray.size] using this
theorem Qnl (n:Int) (h : -9223372036854775808≤n∧n≤9223372036854775807):(Zb n).size≤22:=by
 have:=QfQ n h;unfold Zb;rw [ByteArray.size_append]
 show _+1≤22
 omega
theorem QjE (n:Int) (h : -9223372036854775808≤n∧n≤9223372036854775807) (w:World) (hp:QL w):Calls prog 159 #[Bb n] w fun e w'=>e=.returned (.string (Qe4 n))∧Bd w w':=by
 refine (Any.strconv_Itoa laysItoa171 n h.1 h.2 w hp).mono ?_;rintro e w' ⟨rfl,k,os,rfl⟩;refine ⟨rfl,⟨rfl,rfl,rfl,?_,fun j hj=>?_⟩⟩
 ·show w.heap.size≤(w.heap ++ os).size
  simp
 ·show (w.heap ++ os)[j]?=w.heap[j]?
  rw [Array.getElem?_append_left hj]
theorem QmF (n:Int) (h : -9223372036854775808≤n∧n≤9223372036854775807) (w:World) (hp:QL w):Calls prog 126 #[Bb n] w fun e w'=>e=.returned (.string (QcF n))∧Bd w w':=by
 have HC:=hid (QjE n h w hp);have hq:∀ W:World,(Op.stringOp .add ⟨#[35]⟩ (Qe4 n)).run prog W=.ok (.string (QcF n)) W:=fun W=>DT W _ _ (by have:=QfQ n h;show 1+_≤_;omega)
 clear hp
 go_in
 go_wp2_with fail
 refine HC.out.mono ?_;rintro e w1 ⟨rfl,hb⟩;have HB:=hid hb;clear hb;go_wp2;go_ret;exact ⟨rfl,HB.out⟩
theorem QdN (n:Int) (h : -9223372036854775808≤n∧n≤9223372036854775807) (w:World) (hp:QL w):Calls prog 124 #[Bb n] w fun e w'=>e=.returned (.string (Zb n))∧Bd w w':=by
 have HC:=hid (QjE n h w hp);have hq:∀ W:World,(Op.stringOp .add (Qe4 n) ⟨#[47]⟩).run prog W=.ok (.string (Zb n)) W:=fun W=>DT W _ _ (by have:=QfQ n h;show _+1≤_;omega)
 clear hp
 go_in
 go_wp2_with fail
 refine HC.out.mono ?_;rintro e w1 ⟨rfl,hb⟩;have HB:=hid hb;clear hb;go_wp2;go_ret;exact ⟨rfl,HB.out⟩
theorem QpM (l:List Pu) (ch other:Int) (t:Tr) (sv:Value) (N:Nat) (w:World) (hp:QL w) (hN:N≤w.heap.size) (hl:Qt PuR 3 w N sv l) (hr:QT l) (D:l.length≤60) (hn:t.amount<18446744073709551616) (hc : -9223372036854775808≤ch∧ch≤9223372036854775807) (ho : -9223372036854775808≤other∧other≤9223372036854775807) (hds:t.denom.size≤140737488351232) :
  Calls prog 127 #[sv,Bb ch,Bb other,.agg #[.string t.denom,.int .u64 (t.amount:Int),.string t.sender,.string t.reader]] w fun e w'=>Bd w w'∧∃ v,e=.returned (.tuple #[v,Bb (ZZ l ch other t)])∧J3 w.heap.size w' v (Qa0 l ch other t):=by
 obtain ⟨oa,ca,rfl,-⟩:=hl.shape;have HL:=fun W (hb:Bd w W)=>And.intro (Bh hN hb.size) (hl.below PuR.stays (hb.mono hN))
 have HR:=And.intro hr D;have HE:ZZ l ch other t=if Qb6 t.denom other=true then Qas l (QcF ch) t.reader (Qhj t.denom other) t.amount else Qbs l t.reader (Zb ch ++ t.denom) t.amount:=rfl
 have q:Qa0 l ch other t=if Qb6 t.denom other=true then J9 l (QcF ch) t.reader (Qhj t.denom other) t.amount else QaD l t.reader (Zb ch ++ t.denom) t.amount:=rfl
 have HP:=fun W (hb:Bd w W)=>hp.below hb
 have I:∀ W,Calls prog 163 #[.string t.denom,.string (Zb other)] W fun e w'=>e=.returned (.tuple #[.string (if Qb6 t.denom other=true then Qhj t.denom other else t.denom),.bool (Qb6 t.denom other)])∧Bd W w':=fun W=>QiJ _ _ W
 have hq:∀ W:World,(Op.stringOp .add (Zb ch) t.denom).run prog W=.ok (.string (Zb ch ++ t.denom)) W:=fun W=>DT W _ _ (by have:=Qnl ch hc;omega)
 have G:=hid (fun W (hb:Bd w W)=>Qe2 l (QcF ch) t.reader (Qhj t.denom other) t.amount _ N W (HL W hb).1 (HL W hb).2 HR.1 HR.2 hn)
 have E:=hid (fun W (hb:Bd w W)=>QhO l t.reader (Zb ch ++ t.denom) t.amount _ N W (HL W hb).1 (HL W hb).2 HR.1 HR.2 hn)
 generalize l.length=m at *
 go_in
 go_upto_region 1 with fail
 refine JQ ?_;intro w0 F0 hs;have HF:=fun W (hb:Bd w0 W)=>F0.go hb
 apply QJ (by kernel_rfl) (fun W hb=>(HF W hb).r0.k4) (by kernel_rfl)
 ·intro σ;simp [Ql];exact rfl
 iterate 3 (apply RK.val rfl;· intro σ W hb hc ⟨hd,hu⟩;simp at hd hu;go_simp;exact rfl)
 apply RK.callV rfl
 ·intro σ W hb hc ⟨hd,hu⟩;simp at hd hu;go_simp;exact ⟨rfl,rfl⟩
 ·intro W hb _;exact QdN other ho W (HP W (HF W hb).b)
 apply RK.callV rfl
 ·intro σ W hb hc ⟨hd,hu⟩;simp at hd hu;go_simp;exact ⟨rfl,rfl⟩
 ·intro W hb _;exact I W
 iterate 5 (apply RK.val rfl;· intro σ W hb hc ⟨hd,hu⟩;simp at hd hu;go_simp;exact rfl)
 intro σ W hb _ hF;simp [JE] at hF;go_simp;have j:=hid hb
 by_cases z:Qb6 t.denom other=true
 ·simp only [z,if_true]
  rw [if_pos z] at HE q
  go_upto_region 3 with fail
  apply QJ (by kernel_rfl) (fun W hb=>(HF W (j.out.trans (hb.mono j.out.size))).r0.k4) (by kernel_rfl)
  ·intro σ;simp [Ql];exact rfl
  iterate 2 (apply RK.val rfl;· intro σ W hb hc ⟨hd,hu⟩;simp at hd hu;go_simp;exact rfl)
  apply RK.callV rfl
  ·intro σ W hb hc ⟨hd,hu⟩;simp at hd hu;go_simp;exact ⟨rfl,rfl⟩
  ·intro W hb _;exact QmF ch hc _ (HP _ (HF _ (j.out.trans (hb.mono j.out.size))).b)
  iterate 5 (apply RK.val rfl;· intro σ W hb hc ⟨hd,hu⟩;simp at hd hu;go_simp;exact rfl)
  apply RK.callG (PuE w.heap.size (Qas l (QcF ch) t.reader (Qhj t.denom other) t.amount) (J9 l (QcF ch) t.reader (Qhj t.denom other) t.amount)) (PuE.stay _ _ _) rfl
  ·intro σ W hb hc ⟨hd,hu⟩;simp at hd hu;exact ⟨_,_,by go_simp <;> first | exact rfl | exact ⟨rfl,rfl⟩,Qk2 (Below.size (HF W (j.out.trans (hb.mono j.out.size))).b) (G.out W (HF W (j.out.trans (hb.mono j.out.size))).b)⟩
  apply RK.new (PuB w.heap.size (J9 l (QcF ch) t.reader (Qhj t.denom other) t.amount)) (PuB.stay _ _) rfl
  ·intro σ W hb hc ⟨hd,hu⟩;simp at hd hu
   obtain ⟨o,n,c,e,h⟩:=hd;exact ⟨_,W,by go_simp <;> exact rfl,Bi _ _,o,n,c,rfl,h⟩
  apply RK.val rfl
  ·intro σ W hb hc ⟨hd,hu⟩;simp at hd hu
   obtain ⟨o,n,c,e,h⟩:=hd;go_simp;exact rfl
  apply RK.new (PuB w.heap.size (J9 l (QcF ch) t.reader (Qhj t.denom other) t.amount)) (PuB.stay _ _) rfl
  ·intro σ W hb hc ⟨hd,hu⟩;simp at hd hu
   obtain ⟨o,n,c,e,h⟩:=(show PuB w.heap.size (J9 l (QcF ch) t.reader (Qhj t.denom other) t.amount) _ W from by first | exact hd | exact hd.1)
   try clear hd
   exact ⟨_,W,by go_simp <;> exact rfl,Bi _ _,o,n,c,rfl,h⟩
  apply RK.val rfl
  ·intro σ W hb hc ⟨hd,hu⟩;simp at hd hu;go_simp;exact rfl
  intro σ W hb _;simp only [JE,Bv,By,Nat.reduceAdd];intro hF;obtain ⟨-,-,-,-,-,-,-,-,-,-,-,⟨o9,n9,c9,e9,h9⟩,C,-⟩:=hF;have A:=hid ((HF W (j.out.trans (hb.mono j.out.size))).b);simp only [e9,C];go_wp2;go_ret2;exact ⟨A.out,_,by rw [HE];rfl,by rw [q];exact h9⟩
 ·have L:Qb6 t.denom other=false:=by simpa using z
  rw [if_neg z] at HE q;simp only [L,DS,if_false]
  go_upto_region 4 with fail
  apply QJ (by kernel_rfl) (fun W hb=>(HF W (j.out.trans (hb.mono j.out.size))).r0.k4) (by kernel_rfl)
  ·intro σ;simp [Ql];exact rfl
  iterate 4 (apply RK.val rfl;· intro σ W hb hc ⟨hd,hu⟩;simp at hd hu;go_simp;exact rfl)
  apply RK.callV rfl
  ·intro σ W hb hc ⟨hd,hu⟩;simp at hd hu;go_simp;exact ⟨rfl,rfl⟩
  ·intro W hb _;exact QdN ch hc _ (HP _ (HF _ (j.out.trans (hb.mono j.out.size))).b)
  iterate 5 (apply RK.val rfl;· intro σ W hb hc ⟨hd,hu⟩;simp at hd hu;go_simp;exact rfl)
  apply RK.callG (PuE w.heap.size (Qbs l t.reader (Zb ch ++ t.denom) t.amount) (QaD l t.reader (Zb ch ++ t.denom) t.amount)) (PuE.stay _ _ _) rfl
  ·intro σ W hb hc ⟨hd,hu⟩;simp at hd hu;exact ⟨_,_,by go_simp <;> first | exact rfl | exact ⟨rfl,rfl⟩,Qk2 (Below.size (HF W (j.out.trans (hb.mono j.out.size))).b) (E.out W (HF W (j.out.trans (hb.mono j.out.size))).b)⟩
  apply RK.new (PuB w.heap.size (QaD l t.reader (Zb ch ++ t.denom) t.amount)) (PuB.stay _ _) rfl
  ·intro σ W hb hc ⟨hd,hu⟩;simp at hd hu
   obtain ⟨o,n,c,e,h⟩:=hd;exact ⟨_,W,by go_simp <;> exact rfl,Bi _ _,o,n,c,rfl,h⟩
  apply RK.val rfl
  ·intro σ W hb hc ⟨hd,hu⟩;simp at hd hu
   obtain ⟨o,n,c,e,h⟩:=hd;go_simp;exact rfl
  apply RK.new (PuB w.heap.size (QaD l t.reader (Zb ch ++ t.denom) t.amount)) (PuB.stay _ _) rfl
  ·intro σ W hb hc ⟨hd,hu⟩;simp at hd hu
   obtain ⟨o,n,c,e,h⟩:=(show PuB w.heap.size (QaD l t.reader (Zb ch ++ t.denom) t.amount) _ W from by first | exact hd | exact hd.1)
   try clear hd
   exact ⟨_,W,by go_simp <;> exact rfl,Bi _ _,o,n,c,rfl,h⟩
  apply RK.val rfl
  ·intro σ W hb hc ⟨hd,hu⟩;simp at hd hu;go_simp;exact rfl
  intro σ W hb _;simp only [JE,Bv,By,Nat.reduceAdd];intro hF;obtain ⟨-,-,-,-,-,-,-,-,-,-,-,-,-,⟨o9,n9,c9,e9,h9⟩,C,-⟩:=hF;have A:=hid ((HF W (j.out.trans (hb.mono j.out.size))).b);simp only [e9,C];go_wp2;go_ret2;exact ⟨A.out,_,by rw [HE];rfl,by rw [q];exact h9⟩
theorem Qk0 {b:Bg} {m:List Pc} (h:ZL b=.ok m):Qco b=QdA m:=by unfold Qco;rw [h]
theorem Qqw {b:Bg} {c:Int} (h:ZL b=.error c):Qco b=.error c:=by unfold Qco;rw [h]
theorem Qvi {m:List Pc} (h:QbE m [2,1,2,2]=true):∃ p0 p1 p2 p3,m=[p0,p1,p2,p3]∧p0.k=2∧p1.k=1∧p2.k=2∧p3.k=2:=by
 unfold QbE at h;rw [BR] at h
 rcases m with _ | ⟨p0,_ | ⟨p1,_ | ⟨p2,_ | ⟨p3,_ | ⟨p4,m⟩⟩⟩⟩⟩ <;> simp at h
 exact ⟨p0,p1,p2,p3,rfl,h⟩
theorem QnV {m:List Pc} (h:QbE m [2,1,2,2]=false):QdA m=.error 2:=by
 unfold QdA
 split
 ·rename_i p0 p1 p2 p3
  split
  ·rename_i hk
   unfold QbE at h;simp [hk] at h
  ·rfl
 ·rfl
theorem QnW {p0 p1 p2 p3:Pc} (h:p0.k=2∧p1.k=1∧p2.k=2∧p3.k=2):QdA [p0,p1,p2,p3]=if (QH (Qbg p0.b) && (QH (Qbg p2.b) && QH (Qbg p3.b)))=false then .error 4 else if p1.n=0 then .error 3 else .ok ⟨Qbg p0.b,p1.n,Qbg p2.b,Qbg p3.b⟩:=if_pos h
def trV (t:Tr):Value:=.agg #[.string t.denom,.int .u64 (t.amount:Int),.string t.sender,.string t.reader]
theorem Row.f4 {a b c d:Value} (h:Row w g t [a,b,c,d]):w.cell? ⟨g,0,none⟩=some a∧w.cell? ⟨g,1,none⟩=some b∧w.cell? ⟨g,2,none⟩=some c∧w.cell? ⟨g,3,none⟩=some d∧w.frozen? ⟨g,0,none⟩=false∧w.frozen? ⟨g,1,none⟩=false∧w.frozen? ⟨g,2,none⟩=false∧w.frozen? ⟨g,3,none⟩=false :=
 ⟨h.cell 0,h.cell 1,h.cell 2,h.cell 3,h.frozen 0,h.frozen 1,h.frozen 2,h.frozen 3⟩
theorem FrB.four {a b c d:Value} {l:List Bx} (F:Fr w ((g,t,[a,b,c,d]) :: l) w1) (a' b' c' d':Value):Fr w ((g,t,[a',b',c',d']) :: l) ((((w1.setCell ⟨g,0,none⟩ a').setCell ⟨g,1,none⟩ b').setCell ⟨g,2,none⟩ c').setCell ⟨g,3,none⟩ d') :=
 (((F.set1 0 0 a' rfl).set1 0 1 b' rfl).set1 0 2 c' rfl).set1 0 3 d' rfl
def QtE (base:Nat) (X:Value) (W:World):Prop:=∃ k,X=.pointer (some ⟨k,0,none⟩)∧base≤k∧Row W k 49 [.string ⟨#[]⟩,.int .u64 0,.string ⟨#[]⟩,.string ⟨#[]⟩]
theorem QtE.stay (base:Nat):Yq (QtE base):=fun _ _ _ hb ⟨k,e,h1,h⟩=>⟨k,e,h1,h.below hb h.lt⟩
theorem FrB.join {l:List Bx} (F:Fr w l w1) (hr:Row w1 k t cs) (e:∀ r∈l,r.1<k) (hk:w.heap.size≤k):Fr w (l ++ [(k,t,cs)]) w1:=by
 refine ⟨F.b,fun r h=>?_,fun r h=>?_,?_,F.z⟩
 ·rcases Bw.1 h with h | h
  ·exact F.rows r h
  ·obtain rfl:=BQ.1 h
   exact hr
 ·rcases Bw.1 h with h | h
  ·exact F.own r h
  ·obtain rfl:=BQ.1 h
   exact hk
 ·refine D4.2 ⟨F.apart,Eo _ _,fun a ha b hb=>?_⟩
  obtain rfl:=BQ.1 hb;exact Nat.ne_of_lt (e a ha)
theorem FrB.named4 {c:Code} {w2:World} {l:List Bx} (F:Fr w l w2) (h:∀ w3,Fr w l w3→c.wp P Q a w3):c.wp P Q a w2:=h _ F
theorem QfS (b:Bg) (sv:Value) (N:Nat) (w:World) (hb:Bytes w N sv b) (hN:N≤w.heap.size) (M:b.length≤140737488355328) :
  Calls prog 114 #[sv] w fun e w'=>e=.returned (.tuple #[trV (QQ b),Bb (Jg b)])∧Bd w w':=by
 have HC:=fun W (h:Bd w W)=>QsS b sv N W (hb.below (h.mono hN)) (Bh hN h.size) M
 obtain ⟨oa,ca,rfl,-⟩:=hb.shape
 have HE:Jg b=match Qco b with | .ok _=>0 | .error c=>c:=rfl
 have HT:QQ b=match Qco b with | .ok t=>t | .error _=>Tr.zero:=rfl
 generalize b.length=bl at *
 go_in
 go_upto_region 1 with fail
 refine JQ ?_;intro w0 F0 hs
 go_wp2_with fail
 refine (HC w0 F0.b).mono ?_;rintro e w1 ⟨L,⟨m,v,hm,rfl,hv⟩ | ⟨c,hc,rfl⟩⟩
 ·have F1:=F0.go L
  have aB:=Qk0 hm;have aA:=(Qu2 b m hm).2;obtain ⟨ov,cv,rfl,-⟩:=hv.shape;rw [aB] at HE HT;generalize O:m.length=ml at *
  go_upto_region 4 with fail
  go_wp2_with fail
  refine Qb4 ?_;intro w2 aI A;have F2:=F1.go A;refine (Qps m [2,1,2,2] _ _ _ 4 w2 A.size (hv.below A) aI rfl (by rw [O];have:=aA.1;omega)).mono ?_
  rintro e w3 ⟨rfl,I⟩;have F3:=F2.go I;have aC:=(hv.below A).below (I.mono A.size);have D:=Bh A.size I.size
  by_cases hk:QbE m [2,1,2,2]=false
  ·rw [hk]
   rw [QnV hk] at HE HT;obtain ⟨c0,c1,c2,c3,z0,z1,z2,z3⟩:=F3.r0.f4;have HF:=F3.four (.string ⟨#[]⟩) (.int .u64 0) (.string ⟨#[]⟩) (.string ⟨#[]⟩);go_wp2;refine Qk results114 rfl HF.r0 Z8 rfl ⟨?_,HF.b⟩;rw [HE,HT];rfl
  ·have hk':QbE m [2,1,2,2]=true:=by simpa using hk
   rw [hk'];obtain ⟨p0,p1,p2,p3,rfl,aH⟩:=Qvi hk';rw [QnW aH] at HE HT;obtain rfl:ml=4:=by rw [← O];rfl
   obtain ⟨bb,ff,rfl,C⟩:=aC.some (by omega)
   obtain ⟨aF,v0,a0,a1,a2,g0⟩:=C 0 p0 rfl;obtain ⟨-,v1,b0,b1,b2,g1⟩:=C 1 p1 rfl;obtain ⟨-,v2,d0,d1,d2,g2⟩:=C 2 p2 rfl;obtain ⟨-,v3,e0,e1,e2,g3⟩:=C 3 p3 rfl;simp only [CR,C1,BK,Nat.reduceMul,Dl,Nat.reduceAdd] at a0 a1 a2 b0 b1 b2 d0 d1 d2 e0 e1 e2
   have HZ:=hid (fun W (hW:Bd w3 W)=>show (W.cell? ⟨bb,ff+2,none⟩=some v0∧W.cell? ⟨bb,ff+4,none⟩=some (.int .u64 (p1.n:Int))∧W.cell? ⟨bb,ff+8,none⟩=some v2∧W.cell? ⟨bb,ff+11,none⟩=some v3)∧(convert 29 9 v0).run prog W=.ok (.string (Qbg p0.b)) W∧(convert 29 9 v2).run prog W=.ok (.string (Qbg p2.b)) W∧(convert 29 9 v3).run prog W=.ok (.string (Qbg p3.b)) W from by
    have G:bb<w3.heap.size:=Bt aF D
    exact ⟨⟨(hW.cell (p:=⟨bb,ff+2,none⟩) G).trans a2,(hW.cell (p:=⟨bb,ff+4,none⟩) G).trans b1,(hW.cell (p:=⟨bb,ff+8,none⟩) G).trans d2,(hW.cell (p:=⟨bb,ff+11,none⟩) G).trans e2⟩,QbN (g0.below (hW.mono D)),QbN (g2.below (hW.mono D)),QbN (g3.below (hW.mono D))⟩)
   go_upto_region 6 with fail
   apply JT 21 (by kernel_rfl) (fun W hW=>HZ.out W hW) (by kernel_rfl)
   ·intro σ;simp [Ql];exact rfl
   iterate 20 (apply RK.val rfl;· intro σ W hb hc ⟨hd,hu⟩;simp at hd hu;go_simp;exact rfl)
   apply RK.new (QtE w3.heap.size) (QtE.stay _) rfl
   ·intro σ W hb hc ⟨hd,hu⟩;simp at hd hu
    have HH:=Row.new W 49 [.string ⟨#[]⟩,.int .u64 0,.string ⟨#[]⟩,.string ⟨#[]⟩];exact ⟨_,_,by go_simp <;> first | exact rfl | exact ⟨rfl,rfl⟩,(Bi _ _).alloc (Bj _) _,W.heap.size,rfl,hb.size,HH⟩
   intro σ W hb _;simp only [JE,Bv,By,Nat.reduceAdd];intro hF;obtain ⟨-,-,-,-,-,-,-,-,-,-,-,-,-,-,-,-,-,-,-,aD,⟨k,aE,hk,T⟩,-⟩:=hF;have F4:=(F3.go hb).join T (fun r hr=>Bt (F3.rows r hr).lt hk) (Bh F3.b.size hk)
   obtain ⟨c0,c1,c2,c3,z0,z1,z2,z3⟩:=T.f4;have Y:=(((F4.set1 1 0 (.string (Qbg p0.b)) rfl).set1 1 1 (.int .u64 (p1.n:Int)) rfl).set1 1 2 (.string (Qbg p2.b)) rfl).set1 1 3 (.string (Qbg p3.b)) rfl;simp only [BU,BS,aD,aE];generalize Qbg p0.b=s0 at *;generalize Qbg p2.b=s2 at *;generalize Qbg p3.b=s3 at *;generalize p1.n=n1 at *
   go_upto_region 7 with fail
   refine Y.named4 ?_;intro w5 F5;obtain ⟨k0,k1,k2,k3⟩:=F5.r1.k4
   by_cases y0:QH s0=false
   ·rw [if_pos (by simp [y0])] at HE HT
    have q:=Ye s0 w5;rw [y0] at q
    go_wp2_with fail
    refine q.mono ?_;rintro e wx ⟨rfl,j⟩;obtain rfl:=j.symm;obtain ⟨c0,c1,c2,c3,z0,z1,z2,z3⟩:=F5.r0.f4;have HF:=F5.four (.string ⟨#[]⟩) (.int .u64 0) (.string ⟨#[]⟩) (.string ⟨#[]⟩);obtain ⟨k0,k1,k2,k3⟩:=F5.r1.k4;go_wp2;refine Qk results114 rfl HF.r0 Z8 rfl ⟨?_,HF.b⟩;rw [HE,HT];rfl
   have y0':QH s0=true:=by simpa using y0
   have q:=Ye s0 w5;rw [y0'] at q
   by_cases y2:QH s2=false
   ·rw [if_pos (by simp [y2])] at HE HT
    have z:=Ye s2 w5;rw [y2] at z
    go_wp2_with fail
    refine q.mono ?_;rintro e wx ⟨rfl,j⟩;obtain rfl:=j.symm
    go_wp2_with fail
    refine z.mono ?_;rintro e wx ⟨rfl,j⟩;obtain rfl:=j.symm;obtain ⟨c0,c1,c2,c3,z0,z1,z2,z3⟩:=F5.r0.f4;have HF:=F5.four (.string ⟨#[]⟩) (.int .u64 0) (.string ⟨#[]⟩) (.string ⟨#[]⟩);obtain ⟨k0,k1,k2,k3⟩:=F5.r1.k4;go_wp2;refine Qk results114 rfl HF.r0 Z8 rfl ⟨?_,HF.b⟩;rw [HE,HT];rfl
   have y2':QH s2=true:=by simpa using y2
   have z:=Ye s2 w5;rw [y2'] at z;have E:=Ye s3 w5
   by_cases y3:QH s3=false
   ·rw [if_pos (by simp [y3])] at HE HT
    rw [y3] at E
    go_wp2_with fail
    refine q.mono ?_;rintro e wx ⟨rfl,j⟩;obtain rfl:=j.symm
    go_wp2_with fail
    refine z.mono ?_;rintro e wx ⟨rfl,j⟩;obtain rfl:=j.symm
    go_wp2_with fail
    refine E.mono ?_;rintro e wx ⟨rfl,j⟩;obtain rfl:=j.symm;obtain ⟨c0,c1,c2,c3,z0,z1,z2,z3⟩:=F5.r0.f4;have HF:=F5.four (.string ⟨#[]⟩) (.int .u64 0) (.string ⟨#[]⟩) (.string ⟨#[]⟩);obtain ⟨k0,k1,k2,k3⟩:=F5.r1.k4;go_wp2;refine Qk results114 rfl HF.r0 Z8 rfl ⟨?_,HF.b⟩;rw [HE,HT];rfl
   have y3':QH s3=true:=by simpa using y3
   rw [y3'] at E;rw [if_neg (by simp [y0',y2',y3'])] at HE HT
   go_wp2_with fail
   refine q.mono ?_;rintro e wx ⟨rfl,j⟩;obtain rfl:=j.symm
   go_wp2_with fail
   refine z.mono ?_;rintro e wx ⟨rfl,j⟩;obtain rfl:=j.symm
   go_wp2_with fail
   refine E.mono ?_;rintro e wx ⟨rfl,j⟩;obtain rfl:=j.symm
   by_cases S:n1=0
   ·subst S
    rw [if_pos rfl] at HE HT;obtain ⟨c0,c1,c2,c3,z0,z1,z2,z3⟩:=F5.r0.f4;have HF:=F5.four (.string ⟨#[]⟩) (.int .u64 0) (.string ⟨#[]⟩) (.string ⟨#[]⟩);obtain ⟨k0,k1,k2,k3⟩:=F5.r1.k4;go_wp2;refine Qk results114 rfl HF.r0 Z8 rfl ⟨?_,HF.b⟩;rw [HE,HT];rfl
   ·rw [if_neg S] at HE HT
    obtain ⟨c0,c1,c2,c3,z0,z1,z2,z3⟩:=F5.r0.f4;have HF:=F5.four (.string s0) (.int .u64 (n1:Int)) (.string s2) (.string s3);go_wp2;refine Qk results114 rfl HF.r0 Z8 rfl ⟨?_,HF.b⟩;rw [HE,HT];rfl
 ·rw [Qqw hc] at HE HT
  have F1:=F0.go L;have aG:=QsQ hc;have C:(c != 0)=true:=by simpa using aG
  obtain ⟨c0,c1,c2,c3,z0,z1,z2,z3⟩:=F1.r0.f4;have HF:=F1.four (.string ⟨#[]⟩) (.int .u64 0) (.string ⟨#[]⟩) (.string ⟨#[]⟩);go_wp2;refine Qk results114 rfl HF.r0 Z8 rfl ⟨?_,HF.b⟩;rw [HE,HT];rfl
def Qdv (a b:Hd):Bool:=decide (a.height=b.height) && !QmG a b
theorem Qhf (a b:Hd) (av bv:Value) (N:Nat) (w:World) (hN:N≤w.heap.size) (ha:HdV w N av a) (hb:HdV w N bv b) (q:Js a=0) (z:Js b=0) :
  Calls prog 139 #[av,bv] w fun e w'=>e=.returned (.bool (Qdv a b))∧Bd w w':=by
 have HA:=hid (fun W (hx:Bd w W)=>Qng a av N W (ha.below (hx.mono hN)) (Bh hN hx.size) q)
 have HB:=hid (fun W (hx:Bd w W)=>Qng b bv N W (hb.below (hx.mono hN)) (Bh hN hx.size) z)
 have HV:=hid (show Qdv a b=(decide (a.height=b.height) && !decide (Jk a=Jk b)) by
  unfold Qdv
  congr 2
  rw [Df,QqQ,D2]
  exact ⟨fun h=>by rw [h],Qnh q z⟩)
 obtain ⟨x1,x2,x3,rfl,-,-,-⟩:=ha;obtain ⟨z1,z2,z3,rfl,-,-,-⟩:=hb;clear q z
 go_in
 go_upto_region 1 with fail
 refine QdQ ?_;intro w0 F hs;clear hs;have HF:=hid F;clear F;apply QJ (by kernel_rfl) (fun W hx=>And.intro (HF.out.go hx).r0.cell (HF.out.go hx).r1.cell) (by kernel_rfl)
 ·intro σ;simp [Ql];exact rfl
 iterate 4 (apply RK.val rfl;· intro σ W hx hc ⟨hd,hu⟩;simp at hd hu;go_simp;exact rfl)
 by_cases he:a.height=b.height
 ·have e0:(a.height == b.height)=true:=by simpa using he
  rw [BB he,Bool.true_and] at HV;clear he
  iterate 2 (apply RK.val rfl;· intro σ W hx hc ⟨hd,hu⟩;simp at hd hu;go_simp;exact rfl)
  apply RK.valW;· intro σ W hx hc ⟨hd,hu⟩;simp at hd hu;refine ⟨by simp [Region.wanted,yielded, *],?_⟩;go_simp;exact rfl
  apply RK.callGW (ByB (Jk a)) (ByB.stay _)
  ·intro σ W hx hc ⟨hd,hu⟩;simp at hd hu
   refine ⟨by simp [Region.wanted,yielded, *],_,_,by go_simp <;> first | exact rfl | exact ⟨rfl,rfl⟩,(HA.out W ((HF.out.go hx).b)).mono ?_⟩
   rintro e w' ⟨v,rfl,h,m⟩;obtain ⟨o,c,rfl,-⟩:=h.shape;exact ⟨_,rfl,m,_,_,_,rfl,h⟩
  apply RK.valW;· intro σ W hx hc ⟨hd,hu⟩;simp at hd hu;refine ⟨by simp [Region.wanted,yielded, *],?_⟩;go_simp;exact rfl
  apply RK.callGW (ByB (Jk b)) (ByB.stay _)
  ·intro σ W hx hc ⟨hd,hu⟩;simp at hd hu
   refine ⟨by simp [Region.wanted,yielded, *],_,_,by go_simp <;> first | exact rfl | exact ⟨rfl,rfl⟩,(HB.out W ((HF.out.go hx).b)).mono ?_⟩
   rintro e w' ⟨v,rfl,h,m⟩;obtain ⟨o,c,rfl,-⟩:=h.shape;exact ⟨_,rfl,m,_,_,_,rfl,h⟩
  apply RK.callGW _ (Yq.eq (.bool (decide (Jk a=Jk b))))
  ·intro σ W hx hc ⟨hd,hu⟩;simp at hd hu
   obtain ⟨⟨o,n,c,e7,h7⟩,⟨o',n',c',e9,h9⟩,h5⟩:=hd;have HE:=hid (YD (Jk a) (Jk b) _ _ W.heap.size W.heap.size W h7 h9);clear h7 h9;refine ⟨by simp [Region.wanted,yielded, *],_,_,by go_simp <;> first | exact rfl | exact ⟨rfl,rfl⟩,HE.out.mono ?_⟩
   rintro e w' ⟨rfl,rfl⟩;exact ⟨_,rfl,Bi _ _,rfl⟩
  apply RK.valW;· intro σ W hx hc ⟨hd,hu⟩;simp at hd hu;refine ⟨by simp [Region.wanted,yielded, *],?_⟩;go_simp;exact rfl
  iterate 2 (apply RK.val rfl;· intro σ W hx hc ⟨hd,hu⟩;simp at hd hu;go_simp;exact rfl)
  intro σ W hx _;simp only [JE,Bv,By,Nat.reduceAdd];intro hF;obtain ⟨-,-,-,-,-,-,-,-,-,-,-,-,-,j,-⟩:=hF;have F:=HF.out.go hx;rw [j];clear hx j;go_wp2;go_ret;exact ⟨by rw [HV.out];first | done | rfl,F.b⟩
 ·have e0:(a.height == b.height)=false:=by simpa using he
  rw [BD he,Bool.false_and] at HV;clear he
  iterate 2 (apply RK.val rfl;· intro σ W hx hc ⟨hd,hu⟩;simp at hd hu;go_simp;exact rfl)
  iterate 6 (apply RK.pass;· intro σ W hx hc ⟨hd,hu⟩;simp at hd hu;simp [Region.wanted,yielded, *])
  iterate 2 (apply RK.val rfl;· intro σ W hx hc ⟨hd,hu⟩;simp at hd hu;go_simp;exact rfl)
  intro σ W hx _;simp only [JE,Bv,By,Nat.reduceAdd];intro hF;obtain ⟨-,-,-,-,-,-,-,-,-,-,-,-,-,j,-⟩:=hF;have F:=HF.out.go hx;rw [j];clear hx j;go_wp2;go_ret;exact ⟨by rw [HV.out];first | done | rfl,F.b⟩
def Qu5 (f:FuncId):Prop:=∀ (c:Cl) (a b:Up) (now:Int) (cv av bv:Value) (N:Nat) (w:World),Qi w→N≤w.heap.size→ClV w N cv c→UpV w N av a→UpV w N bv b→c.fits→a.fits→b.fits →
 Calls prog f #[cv,av,bv,Bb now] w fun e w'=>Bd w w'∧∃ o n m,e=.returned (.tuple #[.agg #[.string (Qb7 c a b now).chain,Bb (Qb7 c a b now).trust,.bool (Qb7 c a b now).frozen,.slice o n m],Bb (Qea c a b now)])∧YQ w' w.heap.size (.slice o n m) (Qb7 c a b now).known
theorem Qje {u:Up} {now:Int} (h:QA c u now=0):Js u.sg.hd=0:=(QaJ (Qf2 h).1).1
theorem Qrt: Qu5 104:=by
 intro c a b now cv av bv N w G hN aD aA aC L aF aH
 have HE:=hid (show Qea c a b now=if QY c now≠0 then QY c now else if QA c a now≠0 then QA c a now else if QA c b now≠0 then QA c b now
  else if a.sg.hd.height≠b.sg.hd.height∨QmG a.sg.hd b.sg.hd=true then 8 else 0 from rfl)
 have A:=hid (show Qb7 c a b now=if Qea c a b now=0 then { c with frozen:=true } else Cl.none from rfl)
 have S:=fun W (hb:Bd w W)=>Qnd c now cv N W (aD.below (hb.mono hN)) (Bh hN hb.size) L
 have I:=fun (h:c.known.length≤1000) W (hb:Bd w W)=>QaK c cv N W (aD.below (hb.mono hN)) (Bh hN hb.size) L h
 obtain ⟨kv,rfl,hk⟩:=aD;obtain ⟨oa,ca,rfl,-⟩:=hk.shape;have HD:=fun (h0:QY c now=0) (u:Up) uv (hu:UpV w N uv u) (aL:u.fits) W (hb:Bd w W) gc gn (r1:Row W gc 78 [.string c.chain,Bb c.trust,.bool c.frozen,.slice oa c.known.length ca]) (r2:Row W gn 3 [Bb now])=>Qjs c u now gc gn oa ca uv N W (G.below hb G.lt) (Bh hN hb.size) r1 r2 (hk.below (hb.mono hN)) (hu.below (hb.mono hN)) L aL h0
 have C:=hid (fun h0=>HD h0 a av aA aF)
 have D:=hid (fun h0=>HD h0 b bv aC aH)
 obtain ⟨o1,c1,o2,c2,o3,c3,o4,c4,o5,c5,o6,c6,rfl,f1,f2,f3,-⟩:=aA.open;obtain ⟨r1,s1,r2,s2,r3,s3,r4,s4,r5,s5,r6,s6,rfl,g1,g2,g3,-⟩:=aC.open;have aE:=fun (h1:QA c a now=0) (h2:QA c b now=0) W (hb:Bd w W)=>Qhf a.sg.hd b.sg.hd _ _ N W (Bh hN hb.size) (HdV.below (N:=N) ⟨_,_,_,rfl,f1,f2,f3⟩ (hb.mono hN)) (HdV.below (N:=N) ⟨_,_,_,rfl,g1,g2,g3⟩ (hb.mono hN)) (Qje h1) (Qje h2)
 clear f1 f2 f3 g1 g2 g3 hk aA aC L aF aH G HD
 go_in
 go_upto_region 1 with fail
 refine Qan ?_;intro w0 F hs;clear hs
 go_wp2_with (refine F.load 0 rfl Qm ?_)
 refine (S _ F.b).mono ?_;rintro e w1 ⟨rfl,hb⟩;replace F:=F.go hb;clear hb
 by_cases ha:QY c now=0
 ·replace HE:=hid (HE.out.trans (if_neg (by simp [ha])))
  replace I:=hid (I (by have:=((Yc c).1 (QaR ha).1).2.2.1;omega))
  replace C:=hid (C.out ha);replace D:=hid (D.out ha);rw [ha];clear ha S
  go_wp2_with (refine F.load 0 rfl Qm ?_)
  refine (Qhn c now oa ca c.frozen c.known.length w1).mono ?_;rintro e w2 ⟨rfl,h1,h2,hb⟩;replace F:=F.go hb;have HQ:=fun W (hb:Bd w2 W)=>And.intro (h1.below hb h1.lt) (h2.below hb h2.lt)
  clear h1 h2 hb
  go_upto_region 6 with (first | refine F.load 1 rfl ZA ?_ | refine F.load 2 rfl ZA ?_)
  refine F.box ?_;intro w3 F3 hs aB;replace HQ:=hid (fun W (hb:Bd w3 W)=>HQ W (aB.trans (hb.mono aB.size)))
  clear hs aB F
  go_wp2_with fail
  go_loopw [13,14,29] (fun _ _ i wr=>∃ k:Nat,k≤2∧i=Bb (k:Int)∧Hid (Bd w3 wr∧(1≤k→QA c a now=0)∧(2≤k→QA c b now=0))) (fun _ _ i _=>2-(intOf i).toNat)
  case atStart=>exact ⟨0,by omega,rfl,hid ⟨Bi _ _,fun h=>by omega,fun h=>by omega⟩⟩
  case round =>
   obtain ⟨k,hk,rfl,HI⟩:=hrel;have F:=F3.go HI.out.1;have q4:=F.r4.cell
   by_cases hlt:k<2
   ·rcases (show k=0∨k=1 by omega) with rfl | rfl
    ·go_upto_region 8 with fail
     refine F.box ?_;intro w4 F4 hs E;have hb:=HI.out.1.trans (E.mono HI.out.1.size);clear hs E q4 F
     go_wp2_with (refine F4.load 5 rfl ZA ?_)
     refine (C.out _ F4.b _ _ (HQ _ hb).1 (HQ _ hb).2).mono ?_;rintro e w5 ⟨rfl,q⟩;have FX:=F4.go q;have T:=hid (hb.trans (q.mono hb.size));clear hb q F4
     by_cases hz:QA c a now=0
     ·have HZ:=hid hz
      rw [hz];clear hz FX
      go_wp2_with fail
      go_roundw
      case rel=>exact ⟨1,by omega,by go_num,hid ⟨T.out,fun _=>HZ.out,fun h=>by omega⟩⟩
      case measure=>simp [intOf]
     ·have HE:=hid ((fun (h:QA c a now≠0)=>HE.out.trans (if_pos h)) hz)
      have e2:(QA c a now != 0)=true:=by simpa using hz
      have j:=hid (A.out.trans (if_neg (by rw [HE.out];exact hz)))
      clear hz;generalize QA c a now=z at *
      go_wp2_with (refine FX.store 3 rfl Qm (by simp) ?_;intro w6 F6 O6)
      refine Qk results104 rfl F6.r3 Qm rfl ⟨F6.b,none,0,0,by rw [j.out,HE.out];rfl,?_⟩
      rw [j.out];exact YQ.nil _ _
    ·go_upto_region 8 with fail
     refine F.box ?_;intro w4 F4 hs E;have hb:=HI.out.1.trans (E.mono HI.out.1.size);clear hs E q4 F
     go_wp2_with (refine F4.load 5 rfl ZA ?_)
     refine (D.out _ F4.b _ _ (HQ _ hb).1 (HQ _ hb).2).mono ?_;rintro e w5 ⟨rfl,q⟩;have FX:=F4.go q;have T:=hid (hb.trans (q.mono hb.size));clear hb q F4
     by_cases hz:QA c b now=0
     ·have HZ:=hid hz
      rw [hz];clear hz FX
      go_wp2_with fail
      go_roundw
      case rel=>exact ⟨2,by omega,by go_num,hid ⟨T.out,fun _=>HI.out.2.1 (by omega),fun _=>HZ.out⟩⟩
      case measure=>simp [intOf]
     ·have HE:=hid ((fun (h:QA c b now≠0)=>(HE.out.trans (if_neg (by simp [HI.out.2.1 (by omega)]))).trans (if_pos h)) hz)
      have e2:(QA c b now != 0)=true:=by simpa using hz
      have j:=hid (A.out.trans (if_neg (by rw [HE.out];exact hz)))
      clear hz;generalize QA c b now=z at *
      go_wp2_with (refine FX.store 3 rfl Qm (by simp) ?_;intro w6 F6 O6)
      refine Qk results104 rfl F6.r3 Qm rfl ⟨F6.b,none,0,0,by rw [j.out,HE.out];rfl,?_⟩
      rw [j.out];exact YQ.nil _ _
   ·obtain rfl:k=2:=by omega
    have HX:=hid (And.intro (HI.out.2.1 (by omega)) (HI.out.2.2 (by omega)))
    have q1:=F.r1.cell;have q2:=F.r2.cell;clear q4 C D HQ
    go_wp2_with fail
    refine (aE HX.out.1 HX.out.2 _ F.b).mono ?_;rintro e w5 ⟨rfl,q⟩;have FX:=F.go q;have Y:=hid ((HE.out.trans (if_neg (by simp [HX.out.1]))).trans (if_neg (by simp [HX.out.2])))
    clear q F q1 q2 aE HI
    cases hz:Qdv a.sg.hd b.sg.hd with
    | false =>
     have HE:=hid (Y.out.trans (if_pos (by unfold Qdv at hz;simp at hz;by_cases h:a.sg.hd.height=b.sg.hd.height <;> simp_all)))
     have j:=hid (A.out.trans (if_neg (by rw [HE.out];decide)))
     go_wp2_with (refine FX.store 3 rfl Qm (by simp) ?_;intro w6 F6 O6)
     refine Qk results104 rfl F6.r3 Qm rfl ⟨F6.b,none,0,0,by rw [j.out,HE.out];rfl,?_⟩
     rw [j.out];exact YQ.nil _ _
    | true =>
     have HE:=hid (Y.out.trans (if_neg (by unfold Qdv at hz;simp at hz;simp [hz.1,hz.2])))
     have M:=hid (A.out.trans (if_pos HE.out));clear hz Y
     go_upto_region 14 with fail
     go_wp2_with (refine FX.load 0 rfl Qm ?_)
     refine (I w5 FX.b).mono ?_;rintro e w6 ⟨aG,o,m,ps,rfl,O,aK⟩;have F:=FX.go aG;have HO:=hid O;have HS:=hid FX.b.size;clear aG O FX;generalize ps.length=n at *
     go_upto_region 15 with (refine F.store 0 rfl Qm (by simp) ?_;intro w7 F7 O7)
     have aI:=hid (HO.out.only F.r0 O7);have k2:=F7.r0.cell;have z2:=F7.r0.frozen 2;clear F O7
     go_upto_region 16 with fail
     refine F7.cell 0 rfl ?_;intro w8 F8 O8;have aJ:=hid (aI.out.only F7.r0 O8);clear k2 z2 F7 O8
     go_wp2_with (first | refine F8.load 0 rfl Qm ?_ | (refine F8.store 3 rfl Qm (by simp) ?_;intro w9 F9 O9))
     refine Qk results104 rfl F9.r3 Qm rfl ⟨F9.b,o,n,m,by rw [M.out,HE.out];rfl,?_⟩
     rw [M.out];exact ⟨ps,(aJ.out.only F8.r3 O9).mono HS.out,aK⟩
 ·replace HE:=hid (HE.out.trans (if_pos ha))
  have e2:(QY c now != 0)=true:=by simpa using ha
  have j:=hid (A.out.trans (if_neg (by rw [HE.out];exact ha)))
  have FX:=F;clear ha F S C D I;generalize QY c now=z at *
  go_wp2_with (refine FX.store 3 rfl Qm (by simp) ?_;intro w6 F6 O6)
  refine Qk results104 rfl F6.r3 Qm rfl ⟨F6.b,none,0,0,by rw [j.out,HE.out];rfl,?_⟩
  rw [j.out];exact YQ.nil _ _
def QkS (s:St) (m:Ms):Int:=if 4≤s.clients.length then 5 else Qy (YP m.chain m.trust m.known)
def Qvl (s:St) (m:Ms):St:=if QkS s m=0 then { s with clients:=s.clients ++ [YP m.chain m.trust m.known] } else St.none
def Qss (s:St) (m:Ms):Out:=⟨Qvl s m,QkS s m,if QkS s m=0 then (s.clients.length:Int) else 0,Pk.none⟩
def Qfm (c:Cl) (m:Ms) (now:Int):Int:=if m.kind=3 then Qea c m.upd m.sec now else Zo c m.upd now
def Qb1 (c:Cl) (m:Ms) (now:Int):Cl:=if m.kind=3 then Qb7 c m.upd m.sec now else YM c m.upd now
def Qgr (s:St) (m:Ms):Int:=if m.client<0∨(s.clients.length:Int)≤m.client then 6 else Qfm (QiH s m.client) m s.time
def QmW (s:St) (m:Ms):St:=if Qgr s m=0 then { s with clients:=s.clients.set m.client.toNat (Qb1 (QiH s m.client) m s.time) } else St.none
def QdG (s:St) (m:Ms):Int:=if trN m.tr [m.tr.sender]≠0 then trN m.tr [m.tr.sender] else if YB s m.fin (QF m.tr) m.tmo≠0 then YB s m.fin (QF m.tr) m.tmo else QbF s.purses m.fin.toNat m.tr
def Qoj (s:St) (m:Ms):St:=if QdG s m=0 then { Qdc s (Jx s m.fin (QF m.tr) m.tmo) with purses:=Qa6 s.purses m.fin.toNat m.tr } else St.none
def Qte (s:St) (m:Ms):Pk:=if QdG s m=0 then Jx s m.fin (QF m.tr) m.tmo else Pk.none
def QbL (s:St) (p:Pk):Bool:=decide (Jg p.data=0) && (!ZW (QQ p.data).reader && decide (ZZ s.purses p.dst p.src (QQ p.data)=0))
def YS (s:St) (p:Pk):St:=if QbL s p=true then { s with purses:=Qa0 s.purses p.dst p.src (QQ p.data) } else s
def QiB (s:St) (p:Pk):Bg:=if QbL s p=true then [49] else [48]
def Qn2 (s:St) (p:Pk) (z:Int):Int:=ZV (YS s p) p 1 z
def QsN (s:St) (p:Pk) (z:Int):St:=Qgk (YS s p) p (QiB s p) z
def Y8 (s:St) (p:Pk):Int:=if Jg p.data≠0 then 0 else QcB s.purses p.src.toNat (QQ p.data)
def JH (s:St) (p:Pk):St:=if Jg p.data≠0 then s else if QcB s.purses p.src.toNat (QQ p.data)=0 then { s with purses:=QcT s.purses p.src.toNat (QQ p.data) } else St.none
def Qnb (s:St) (m:Ms) (z:Int):Int:=if Zd s m.pk m.ack.length z≠0∨m.ack≠[48] then Zd s m.pk m.ack.length z else Y8 (Ze s m.pk m.ack.length z) m.pk
def Qkg (s:St) (m:Ms) (z:Int):St:=if Zd s m.pk m.ack.length z≠0∨m.ack≠[48] then Ze s m.pk m.ack.length z else JH (Ze s m.pk m.ack.length z) m.pk
def QnR (s:St) (m:Ms) (z:Int):Int:=if Zx s m.pk m.next m.sh.height z≠0 then Zx s m.pk m.next m.sh.height z else Y8 (Zy s m.pk m.next m.sh.height z) m.pk
def QkO (s:St) (m:Ms) (z:Int):St:=if Zx s m.pk m.next m.sh.height z≠0 then Zy s m.pk m.next m.sh.height z else JH (Zy s m.pk m.next m.sh.height z) m.pk
def QG (s:St) (m:Ms) (z:Int):Out :=
 if m.kind=1 then Qss s m
 else if m.kind=2∨m.kind=3 then Y7 (QmW s m) (Qgr s m)
 else if m.kind=4 then ⟨Ql2 s m.client m.other,QaA s m.client m.other,Qlp s (QaA s m.client m.other),Pk.none⟩
 else if m.kind=5 then ⟨Qtr s m.client m.other m.oend z,Qcu s m.client m.other m.oend z,Qlp s (Qcu s m.client m.other m.oend z),Pk.none⟩
 else if m.kind=6 then Y7 (Qrf s m.fin m.oend z) (QiA s m.fin m.oend z)
 else if m.kind=7 then Y7 (QlE s m.fin z) (QcX s m.fin z)
 else if m.kind=8 then ⟨QfB s m.fin m.ordered,Qav s m.fin,QcQ s (Qav s m.fin),Pk.none⟩
 else if m.kind=9 then ⟨QlI s m.fin m.ordered m.oend z,Qam s m.fin m.oend z,QcQ s (Qam s m.fin m.oend z),Pk.none⟩
 else if m.kind=10 then Y7 (Qlw s m.fin m.oend z) (QdM s m.fin m.oend z)
 else if m.kind=11 then Y7 (QcR s m.fin 2 z 3) (Zs s m.fin 2 z)
 else if m.kind=12 then Y7 (QfD s m.fin) (Jv s m.fin 3)
 else if m.kind=13 then Y7 (QcR s m.fin 3 z 4) (Zs s m.fin 3 z)
 else if m.kind=14 then ⟨Qoj s m,QdG s m,0,Qte s m⟩
 else if m.kind=15 then Y7 (QsN s m.pk z) (Qn2 s m.pk z)
 else if m.kind=16 then Y7 (Qkg s m z) (Qnb s m z)
 else if m.kind=17 then Y7 (QkO s m z) (QnR s m z)
 else if m.kind=18 then Qhs s m
 else Y7 s 1
def Qpt (s:St) (m:Ms) (z:Int):Prop :=
 if m.kind=5 then Qnc s m.client m.other m.oend m.sh z
 else if m.kind=6 then Qkh s m.fin m.oend m.sh z
 else if m.kind=7 then QgG s m.fin m.sh z
 else if m.kind=9 then QaZ s ⟨2,m.ordered,m.fin,m.oend,0,0,0⟩ 1 (-1) m.sh z
 else if m.kind=10 then QaZ s ⟨3,(Qv s m.fin).ordered,(Qv s m.fin).conn,m.oend,0,0,0⟩ 2 m.fin m.sh z
 else if m.kind=11 then QaZ s ⟨2,(Qv s m.fin).ordered,(Qv s m.fin).conn,(Qv s m.fin).ochan,0,0,0⟩ 3 m.fin m.sh z
 else if m.kind=13 then QaZ s ⟨3,(Qv s m.fin).ordered,(Qv s m.fin).conn,(Qv s m.fin).ochan,0,0,0⟩ 4 m.fin m.sh z
 else if m.kind=15 then QeG s m.pk m.sh z
 else if m.kind=16 then QgH s m.pk m.ack m.sh z
 else if m.kind=17 then Qdt s m.pk m.next m.sh z
 else True
theorem Qpu (s:St) (m:Ms):∃ z,Qpt s m z:=by
 unfold Qpt
 by_cases h5:m.kind=5
 ·simp only [if_pos h5]
  unfold Qnc JM;exact QU.some _ _ _ _
 simp only [if_neg h5]
 by_cases h6:m.kind=6
 ·simp only [if_pos h6]
  unfold Qkh JM;exact QU.some _ _ _ _
 simp only [if_neg h6]
 by_cases h7:m.kind=7
 ·simp only [if_pos h7]
  unfold QgG JM;exact QU.some _ _ _ _
 simp only [if_neg h7]
 by_cases h9:m.kind=9
 ·simp only [if_pos h9]
  unfold QaZ JM;exact QU.some _ _ _ _
 simp only [if_neg h9]
 by_cases b:m.kind=10
 ·simp only [if_pos b]
  unfold QaZ JM;exact QU.some _ _ _ _
 simp only [if_neg b]
 by_cases e:m.kind=11
 ·simp only [if_pos e]
  unfold QaZ JM;exact QU.some _ _ _ _
 simp only [if_neg e]
 by_cases j:m.kind=13
 ·simp only [if_pos j]
  unfold QaZ JM;exact QU.some _ _ _ _
 simp only [if_neg j]
 by_cases q:m.kind=15
 ·simp only [if_pos q]
  exact QU.some _ _ _ _
 simp only [if_neg q]
 by_cases A:m.kind=16
 ·simp only [if_pos A]
  exact QU.some _ _ _ _
 simp only [if_neg A]
 by_cases C:m.kind=17
 ·simp only [if_pos C]
  by_cases ho:(Qv s m.pk.src).ordered=true
  ·simp only [Qdt,if_pos ho];exact QU.some _ _ _ _
  ·simp only [Qdt,if_neg ho];exact QU.some _ _ _ _
 simp only [if_neg C];exact ⟨0,trivial⟩
def doO (s:St) (m:Ms) (z:Int):Out:=if Qd s≠0 then Y7 St.none (Qd s) else if (QG s m z).err≠0 then Y7 s (QG s m z).err else QG s m z
end Go.Proofs.YtnedafiokmjkkaaGreatDoor
