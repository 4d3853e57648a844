/- What comes of any message. -/
import Derived.Test.YtnedafiokmjkkaaGreatDoorpaClFollow
import Derived.Test.YtnedafiokmjkkaaGreatDoorpaBkSafe
import Derived.Test.YtnedafiokmjkkaaGreatDoorpaApDo
namespace Go.Proofs.YtnedafiokmjkkaaGreatDoor
open Tryz
set_option maxRecDepth 1000000
set_option maxHeartbeats 8000000
open Go.RowKit
variable {w w1:World} {g k:Nat} {t:TypeId} {cs:List Value} {P:Program} {Q:Exit→Act→World→Prop} {a:Act} {c:Cl}
def QhH (n:Int):ByteArray:=⟨(Lib.itoa n).toArray⟩
def Qcu (n:Int):ByteArray:=⟨#[35]⟩ ++ QhH n
def Zy (n:Int):ByteArray:=QhH n ++ ⟨#[47]⟩
def QcK (d:ByteArray) (n:Int):Bool:=Lib.hasPrefix d.data.toList (Zy n).data.toList
def Qha (d:ByteArray) (n:Int):ByteArray:=d.extract (Zy n).size d.size
def Qbv (l:List Pu) (ch other:Int) (t:Tr):Int:=if QcK t.denom other=true then Qan l (Qcu ch) t.reader (Qha t.denom other) t.amount else Qbl l t.reader (Zy ch ++ t.denom) t.amount
def Qb1 (l:List Pu) (ch other:Int) (t:Tr):List Pu:=if QcK t.denom other=true then J6 l (Qcu ch) t.reader (Qha t.denom other) t.amount else Qaw l t.reader (Zy ch ++ t.denom) t.amount
theorem QfD (n:Int) (h : -9223372036854775808≤n∧n≤9223372036854775807):(QhH n).size≤21:=by
 have:=Lib.itoa_length_le n h.1 h.2;unfold QhH;simpa [ByteArray.size] using this
theorem QmS (n:Int) (h : -9223372036854775808≤n∧n≤9223372036854775807):(Zy n).size≤22:=by
 have:=QfD n h;unfold Zy;rw [ByteArray.size_append]
 show _+1≤22
 omega
theorem Qjr (n:Int) (h : -9223372036854775808≤n∧n≤9223372036854775807) (w:World) (hp:QL w):Calls prog 159 #[Bb n] w fun e w'=>e=.returned (.string (QhH n))∧Bd w w':=by
 refine (Any.strconv_Itoa laysItoa171 n h.1 h.2 w hp).mono ?_;rintro e w' ⟨rfl,k,os,rfl⟩;refine ⟨rfl,⟨rfl,rfl,rfl,?_,fun j hj=>?_⟩⟩
 ·show w.heap.size≤(w.heap ++ os).size
  simp
 ·show (w.heap ++ os)[j]?=w.heap[j]?
  rw [Array.getElem?_append_left hj]
theorem Qmg (n:Int) (h : -9223372036854775808≤n∧n≤9223372036854775807) (w:World) (hp:QL w):Calls prog 126 #[Bb n] w fun e w'=>e=.returned (.string (Qcu n))∧Bd w w':=by
 have HC:=hid (Qjr n h w hp);have hq:∀ W:World,(Op.stringOp .add ⟨#[35]⟩ (QhH n)).run prog W=.ok (.string (Qcu n)) W:=fun W=>D8 W _ _ (by have:=QfD n h;show 1+_≤_;omega)
 clear hp
 go_in
 go_wp2_with fail
 refine HC.out.mono ?_;rintro e w1 ⟨rfl,hb⟩;have HB:=hid hb;clear hb;go_wp2;go_ret;exact ⟨rfl,HB.out⟩
theorem QdG (n:Int) (h : -9223372036854775808≤n∧n≤9223372036854775807) (w:World) (hp:QL w):Calls prog 124 #[Bb n] w fun e w'=>e=.returned (.string (Zy n))∧Bd w w':=by
 have HC:=hid (Qjr n h w hp);have hq:∀ W:World,(Op.stringOp .add (QhH n) ⟨#[47]⟩).run prog W=.ok (.string (Zy n)) W:=fun W=>D8 W _ _ (by have:=QfD n h;show _+1≤_;omega)
 clear hp
 go_in
 go_wp2_with fail
 refine HC.out.mono ?_;rintro e w1 ⟨rfl,hb⟩;have HB:=hid hb;clear hb;go_wp2;go_ret;exact ⟨rfl,HB.out⟩
theorem Qpq (l:List Pu) (ch other:Int) (t:Tr) (sv:Value) (N:Nat) (w:World) (hp:QL w) (hN:N≤w.heap.size) (hl:Qt PuR 3 w N sv l) (hr:Q1 l) (C:l.length≤60) (hn:t.amount<18446744073709551616) (hc : -9223372036854775808≤ch∧ch≤9223372036854775807) (ho : -9223372036854775808≤other∧other≤9223372036854775807) (hds:t.denom.size≤140737488351232) :
  Calls prog 127 #[sv,Bb ch,Bb other,.agg #[.string t.denom,.int .u64 (t.amount:Int),.string t.sender,.string t.reader]] w fun e w'=>Bd w w'∧∃ v,e=.returned (.tuple #[v,Bb (Qbv l ch other t)])∧JZ w.heap.size w' v (Qb1 l ch other t):=by
 obtain ⟨oa,ca,rfl,-⟩:=hl.shape;have HL:=fun W (hb:Bd w W)=>And.intro (Bh hN hb.size) (hl.below PuR.stays (hb.mono hN))
 have HR:=And.intro hr C;have HE:Qbv l ch other t=if QcK t.denom other=true then Qan l (Qcu ch) t.reader (Qha t.denom other) t.amount else Qbl l t.reader (Zy ch ++ t.denom) t.amount:=rfl
 have j:Qb1 l ch other t=if QcK t.denom other=true then J6 l (Qcu ch) t.reader (Qha t.denom other) t.amount else Qaw l t.reader (Zy ch ++ t.denom) t.amount:=rfl
 have HP:=fun W (hb:Bd w W)=>hp.below hb
 have G:∀ W,Calls prog 163 #[.string t.denom,.string (Zy other)] W fun e w'=>e=.returned (.tuple #[.string (if QcK t.denom other=true then Qha t.denom other else t.denom),.bool (QcK t.denom other)])∧Bd W w':=fun W=>Qiw _ _ W
 have hq:∀ W:World,(Op.stringOp .add (Zy ch) t.denom).run prog W=.ok (.string (Zy ch ++ t.denom)) W:=fun W=>D8 W _ _ (by have:=QmS ch hc;omega)
 have E:=hid (fun W (hb:Bd w W)=>QeU l (Qcu ch) t.reader (Qha t.denom other) t.amount _ N W (HL W hb).1 (HL W hb).2 HR.1 HR.2 hn)
 have D:=hid (fun W (hb:Bd w W)=>QhF l t.reader (Zy ch ++ t.denom) t.amount _ N W (HL W hb).1 (HL W hb).2 HR.1 HR.2 hn)
 generalize l.length=m at *
 go_in
 go_upto_region 1 with fail
 refine JN ?_;intro w0 F0 hs;have HF:=fun W (hb:Bd w0 W)=>F0.go hb
 apply QD (by kernel_rfl) (fun W hb=>(HF W hb).r0.k4) (by kernel_rfl)
 ·intro σ;simp [Qj];exact rfl
 iterate 3 (apply RK.val rfl;· intro σ W hb hc ⟨hd,hu⟩;simp at hd hu;go_simp;exact rfl)
 apply RK.callV rfl
 ·intro σ W hb hc ⟨hd,hu⟩;simp at hd hu;go_simp;exact ⟨rfl,rfl⟩
 ·intro W hb _;exact QdG other ho W (HP W (HF W hb).b)
 apply RK.callV rfl
 ·intro σ W hb hc ⟨hd,hu⟩;simp at hd hu;go_simp;exact ⟨rfl,rfl⟩
 ·intro W hb _;exact G W
 iterate 5 (apply RK.val rfl;· intro σ W hb hc ⟨hd,hu⟩;simp at hd hu;go_simp;exact rfl)
 intro σ W hb _ hF;simp [Jm] at hF;go_simp;have d:=hid hb
 by_cases q:QcK t.denom other=true
 ·simp only [q,if_true]
  rw [if_pos q] at HE j
  go_upto_region 3 with fail
  apply QD (by kernel_rfl) (fun W hb=>(HF W (d.out.trans (hb.mono d.out.size))).r0.k4) (by kernel_rfl)
  ·intro σ;simp [Qj];exact rfl
  iterate 2 (apply RK.val rfl;· intro σ W hb hc ⟨hd,hu⟩;simp at hd hu;go_simp;exact rfl)
  apply RK.callV rfl
  ·intro σ W hb hc ⟨hd,hu⟩;simp at hd hu;go_simp;exact ⟨rfl,rfl⟩
  ·intro W hb _;exact Qmg ch hc _ (HP _ (HF _ (d.out.trans (hb.mono d.out.size))).b)
  iterate 5 (apply RK.val rfl;· intro σ W hb hc ⟨hd,hu⟩;simp at hd hu;go_simp;exact rfl)
  apply RK.callG (PuE w.heap.size (Qan l (Qcu ch) t.reader (Qha t.denom other) t.amount) (J6 l (Qcu ch) t.reader (Qha t.denom other) t.amount)) (PuE.stay _ _ _) rfl
  ·intro σ W hb hc ⟨hd,hu⟩;simp at hd hu;exact ⟨_,_,by go_simp <;> first | exact rfl | exact ⟨rfl,rfl⟩,QkK (Below.size (HF W (d.out.trans (hb.mono d.out.size))).b) (E.out W (HF W (d.out.trans (hb.mono d.out.size))).b)⟩
  apply RK.new (PuB w.heap.size (J6 l (Qcu ch) t.reader (Qha t.denom other) t.amount)) (PuB.stay _ _) rfl
  ·intro σ W hb hc ⟨hd,hu⟩;simp at hd hu
   obtain ⟨o,n,c,e,h⟩:=hd;exact ⟨_,W,by go_simp <;> exact rfl,Bi _ _,o,n,c,rfl,h⟩
  apply RK.val rfl
  ·intro σ W hb hc ⟨hd,hu⟩;simp at hd hu
   obtain ⟨o,n,c,e,h⟩:=hd;go_simp;exact rfl
  apply RK.new (PuB w.heap.size (J6 l (Qcu ch) t.reader (Qha t.denom other) t.amount)) (PuB.stay _ _) rfl
  ·intro σ W hb hc ⟨hd,hu⟩;simp at hd hu
   obtain ⟨o,n,c,e,h⟩:=(show PuB w.heap.size (J6 l (Qcu ch) t.reader (Qha t.denom other) t.amount) _ W from by first | exact hd | exact hd.1)
   try clear hd
   exact ⟨_,W,by go_simp <;> exact rfl,Bi _ _,o,n,c,rfl,h⟩
  apply RK.val rfl
  ·intro σ W hb hc ⟨hd,hu⟩;simp at hd hu;go_simp;exact rfl
  intro σ W hb _;simp only [Jm,Bv,Bz,Nat.reduceAdd];intro hF;obtain ⟨-,-,-,-,-,-,-,-,-,-,-,⟨o9,n9,c9,e9,h9⟩,A,-⟩:=hF;have z:=hid ((HF W (d.out.trans (hb.mono d.out.size))).b);simp only [e9,A];go_wp2;go_ret2;exact ⟨z.out,_,by rw [HE];rfl,by rw [j];exact h9⟩
 ·have I:QcK t.denom other=false:=by simpa using q
  rw [if_neg q] at HE j;simp only [I,DT,if_false]
  go_upto_region 4 with fail
  apply QD (by kernel_rfl) (fun W hb=>(HF W (d.out.trans (hb.mono d.out.size))).r0.k4) (by kernel_rfl)
  ·intro σ;simp [Qj];exact rfl
  iterate 4 (apply RK.val rfl;· intro σ W hb hc ⟨hd,hu⟩;simp at hd hu;go_simp;exact rfl)
  apply RK.callV rfl
  ·intro σ W hb hc ⟨hd,hu⟩;simp at hd hu;go_simp;exact ⟨rfl,rfl⟩
  ·intro W hb _;exact QdG ch hc _ (HP _ (HF _ (d.out.trans (hb.mono d.out.size))).b)
  iterate 5 (apply RK.val rfl;· intro σ W hb hc ⟨hd,hu⟩;simp at hd hu;go_simp;exact rfl)
  apply RK.callG (PuE w.heap.size (Qbl l t.reader (Zy ch ++ t.denom) t.amount) (Qaw l t.reader (Zy ch ++ t.denom) t.amount)) (PuE.stay _ _ _) rfl
  ·intro σ W hb hc ⟨hd,hu⟩;simp at hd hu;exact ⟨_,_,by go_simp <;> first | exact rfl | exact ⟨rfl,rfl⟩,QkK (Below.size (HF W (d.out.trans (hb.mono d.out.size))).b) (D.out W (HF W (d.out.trans (hb.mono d.out.size))).b)⟩
  apply RK.new (PuB w.heap.size (Qaw l t.reader (Zy ch ++ t.denom) t.amount)) (PuB.stay _ _) rfl
  ·intro σ W hb hc ⟨hd,hu⟩;simp at hd hu
   obtain ⟨o,n,c,e,h⟩:=hd;exact ⟨_,W,by go_simp <;> exact rfl,Bi _ _,o,n,c,rfl,h⟩
  apply RK.val rfl
  ·intro σ W hb hc ⟨hd,hu⟩;simp at hd hu
   obtain ⟨o,n,c,e,h⟩:=hd;go_simp;exact rfl
  apply RK.new (PuB w.heap.size (Qaw l t.reader (Zy ch ++ t.denom) t.amount)) (PuB.stay _ _) rfl
  ·intro σ W hb hc ⟨hd,hu⟩;simp at hd hu
   obtain ⟨o,n,c,e,h⟩:=(show PuB w.heap.size (Qaw l t.reader (Zy ch ++ t.denom) t.amount) _ W from by first | exact hd | exact hd.1)
   try clear hd
   exact ⟨_,W,by go_simp <;> exact rfl,Bi _ _,o,n,c,rfl,h⟩
  apply RK.val rfl
  ·intro σ W hb hc ⟨hd,hu⟩;simp at hd hu;go_simp;exact rfl
  intro σ W hb _;simp only [Jm,Bv,Bz,Nat.reduceAdd];intro hF;obtain ⟨-,-,-,-,-,-,-,-,-,-,-,-,-,⟨o9,n9,c9,e9,h9⟩,A,-⟩:=hF;have z:=hid ((HF W (d.out.trans (hb.mono d.out.size))).b);simp only [e9,A];go_wp2;go_ret2;exact ⟨z.out,_,by rw [HE];rfl,by rw [j];exact h9⟩
theorem QkI {b:Bg} {m:List Pc} (h:ZF b=.ok m):Qcf b=Qdu m:=by unfold Qcf;rw [h]
theorem Qp9 {b:Bg} {c:Int} (h:ZF b=.error c):Qcf b=.error c:=by unfold Qcf;rw [h]
theorem Qu0 {m:List Pc} (h:QbA m [2,1,2,2]=true):∃ p0 p1 p2 p3,m=[p0,p1,p2,p3]∧p0.k=2∧p1.k=1∧p2.k=2∧p3.k=2:=by
 unfold QbA at h;rw [BS] at h
 rcases m with _ | ⟨p0,_ | ⟨p1,_ | ⟨p2,_ | ⟨p3,_ | ⟨p4,m⟩⟩⟩⟩⟩ <;> simp at h
 exact ⟨p0,p1,p2,p3,rfl,h⟩
theorem Qny {m:List Pc} (h:QbA m [2,1,2,2]=false):Qdu m=.error 2:=by
 unfold Qdu
 split
 ·rename_i p0 p1 p2 p3
  split
  ·rename_i hk
   unfold QbA at h;simp [hk] at h
  ·rfl
 ·rfl
theorem Qnz {p0 p1 p2 p3:Pc} (h:p0.k=2∧p1.k=1∧p2.k=2∧p3.k=2):Qdu [p0,p1,p2,p3]=if (QH (Qa7 p0.b) && (QH (Qa7 p2.b) && QH (Qa7 p3.b)))=false then .error 4 else if p1.n=0 then .error 3 else .ok ⟨Qa7 p0.b,p1.n,Qa7 p2.b,Qa7 p3.b⟩:=if_pos h
def trV (t:Tr):Value:=.agg #[.string t.denom,.int .u64 (t.amount:Int),.string t.sender,.string t.reader]
theorem Row.f4 {a b c d:Value} (h:Row w g t [a,b,c,d]):w.cell? ⟨g,0,none⟩=some a∧w.cell? ⟨g,1,none⟩=some b∧w.cell? ⟨g,2,none⟩=some c∧w.cell? ⟨g,3,none⟩=some d∧w.frozen? ⟨g,0,none⟩=false∧w.frozen? ⟨g,1,none⟩=false∧w.frozen? ⟨g,2,none⟩=false∧w.frozen? ⟨g,3,none⟩=false :=
 ⟨h.cell 0,h.cell 1,h.cell 2,h.cell 3,h.frozen 0,h.frozen 1,h.frozen 2,h.frozen 3⟩
theorem FrB.four {a b c d:Value} {l:List Bx} (F:Fr w ((g,t,[a,b,c,d]) :: l) w1) (a' b' c' d':Value):Fr w ((g,t,[a',b',c',d']) :: l) ((((w1.setCell ⟨g,0,none⟩ a').setCell ⟨g,1,none⟩ b').setCell ⟨g,2,none⟩ c').setCell ⟨g,3,none⟩ d') :=
 (((F.set1 0 0 a' rfl).set1 0 1 b' rfl).set1 0 2 c' rfl).set1 0 3 d' rfl
def Qti (base:Nat) (X:Value) (W:World):Prop:=∃ k,X=.pointer (some ⟨k,0,none⟩)∧base≤k∧Row W k 49 [.string ⟨#[]⟩,.int .u64 0,.string ⟨#[]⟩,.string ⟨#[]⟩]
theorem Qti.stay (base:Nat):Yr (Qti base):=fun _ _ _ hb ⟨k,e,h1,h⟩=>⟨k,e,h1,h.below hb h.lt⟩
theorem FrB.join {l:List Bx} (F:Fr w l w1) (hr:Row w1 k t cs) (d:∀ r∈l,r.1<k) (hk:w.heap.size≤k):Fr w (l ++ [(k,t,cs)]) w1:=by
 refine ⟨F.b,fun r h=>?_,fun r h=>?_,?_,F.z⟩
 ·rcases By.1 h with h | h
  ·exact F.rows r h
  ·obtain rfl:=BR.1 h
   exact hr
 ·rcases By.1 h with h | h
  ·exact F.own r h
  ·obtain rfl:=BR.1 h
   exact hk
 ·refine D4.2 ⟨F.apart,Ep _ _,fun a ha b hb=>?_⟩
  obtain rfl:=BR.1 hb;exact Nat.ne_of_lt (d a ha)
theorem FrB.named4 {c:Code} {w2:World} {l:List Bx} (F:Fr w l w2) (h:∀ w3,Fr w l w3→c.wp P Q a w3):c.wp P Q a w2:=h _ F
theorem QfF (b:Bg) (sv:Value) (N:Nat) (w:World) (hb:Bytes w N sv b) (hN:N≤w.heap.size) (L:b.length≤140737488355328) :
  Calls prog 114 #[sv] w fun e w'=>e=.returned (.tuple #[trV (QS b),Bb (Jj b)])∧Bd w w':=by
 have HC:=fun W (h:Bd w W)=>Qsv b sv N W (hb.below (h.mono hN)) (Bh hN h.size) L
 obtain ⟨oa,ca,rfl,-⟩:=hb.shape
 have HE:Jj b=match Qcf b with | .ok _=>0 | .error c=>c:=rfl
 have HT:QS b=match Qcf b with | .ok t=>t | .error _=>Tr.zero:=rfl
 generalize b.length=bl at *
 go_in
 go_upto_region 1 with fail
 refine JN ?_;intro w0 F0 hs
 go_wp2_with fail
 refine (HC w0 F0.b).mono ?_;rintro e w1 ⟨I,⟨m,v,hm,rfl,hv⟩ | ⟨c,hc,rfl⟩⟩
 ·have F1:=F0.go I
  have aA:=QkI hm;have Y:=(QuL b m hm).2;obtain ⟨ov,cv,rfl,-⟩:=hv.shape;rw [aA] at HE HT;generalize M:m.length=ml at *
  go_upto_region 4 with fail
  go_wp2_with fail
  refine QbW ?_;intro w2 aH z;have F2:=F1.go z;refine (Qo8 m [2,1,2,2] _ _ _ 4 w2 z.size (hv.below z) aH rfl (by rw [M];have:=Y.1;omega)).mono ?_
  rintro e w3 ⟨rfl,G⟩;have F3:=F2.go G;have aB:=(hv.below z).below (G.mono z.size);have C:=Bh z.size G.size
  by_cases hk:QbA m [2,1,2,2]=false
  ·rw [hk]
   rw [Qny hk] at HE HT;obtain ⟨c0,c1,c2,c3,z0,z1,z2,z3⟩:=F3.r0.f4;have HF:=F3.four (.string ⟨#[]⟩) (.int .u64 0) (.string ⟨#[]⟩) (.string ⟨#[]⟩);go_wp2;refine Ql results114 rfl HF.r0 Z1 rfl ⟨?_,HF.b⟩;rw [HE,HT];rfl
  ·have hk':QbA m [2,1,2,2]=true:=by simpa using hk
   rw [hk'];obtain ⟨p0,p1,p2,p3,rfl,aG⟩:=Qu0 hk';rw [Qnz aG] at HE HT;obtain rfl:ml=4:=by rw [← M];rfl
   obtain ⟨bb,ff,rfl,A⟩:=aB.some (by omega)
   obtain ⟨aE,v0,a0,a1,a2,g0⟩:=A 0 p0 rfl;obtain ⟨-,v1,b0,b1,b2,g1⟩:=A 1 p1 rfl;obtain ⟨-,v2,d0,d1,d2,g2⟩:=A 2 p2 rfl;obtain ⟨-,v3,e0,e1,e2,g3⟩:=A 3 p3 rfl;simp only [CR,C1,BM,Nat.reduceMul,Da,Nat.reduceAdd] at a0 a1 a2 b0 b1 b2 d0 d1 d2 e0 e1 e2
   have HZ:=hid (fun W (hW:Bd w3 W)=>show (W.cell? ⟨bb,ff+2,none⟩=some v0∧W.cell? ⟨bb,ff+4,none⟩=some (.int .u64 (p1.n:Int))∧W.cell? ⟨bb,ff+8,none⟩=some v2∧W.cell? ⟨bb,ff+11,none⟩=some v3)∧(convert 29 9 v0).run prog W=.ok (.string (Qa7 p0.b)) W∧(convert 29 9 v2).run prog W=.ok (.string (Qa7 p2.b)) W∧(convert 29 9 v3).run prog W=.ok (.string (Qa7 p3.b)) W from by
    have E:bb<w3.heap.size:=Br aE C
    exact ⟨⟨(hW.cell (p:=⟨bb,ff+2,none⟩) E).trans a2,(hW.cell (p:=⟨bb,ff+4,none⟩) E).trans b1,(hW.cell (p:=⟨bb,ff+8,none⟩) E).trans d2,(hW.cell (p:=⟨bb,ff+11,none⟩) E).trans e2⟩,QcQ (g0.below (hW.mono C)),QcQ (g2.below (hW.mono C)),QcQ (g3.below (hW.mono C))⟩)
   go_upto_region 6 with fail
   apply JQ 21 (by kernel_rfl) (fun W hW=>HZ.out W hW) (by kernel_rfl)
   ·intro σ;simp [Qj];exact rfl
   iterate 20 (apply RK.val rfl;· intro σ W hb hc ⟨hd,hu⟩;simp at hd hu;go_simp;exact rfl)
   apply RK.new (Qti w3.heap.size) (Qti.stay _) rfl
   ·intro σ W hb hc ⟨hd,hu⟩;simp at hd hu
    have HH:=Row.new W 49 [.string ⟨#[]⟩,.int .u64 0,.string ⟨#[]⟩,.string ⟨#[]⟩];exact ⟨_,_,by go_simp <;> first | exact rfl | exact ⟨rfl,rfl⟩,(Bi _ _).alloc (Bj _) _,W.heap.size,rfl,hb.size,HH⟩
   intro σ W hb _;simp only [Jm,Bv,Bz,Nat.reduceAdd];intro hF;obtain ⟨-,-,-,-,-,-,-,-,-,-,-,-,-,-,-,-,-,-,-,aC,⟨k,aD,hk,S⟩,-⟩:=hF;have F4:=(F3.go hb).join S (fun r hr=>Br (F3.rows r hr).lt hk) (Bh F3.b.size hk)
   obtain ⟨c0,c1,c2,c3,z0,z1,z2,z3⟩:=S.f4;have T:=(((F4.set1 1 0 (.string (Qa7 p0.b)) rfl).set1 1 1 (.int .u64 (p1.n:Int)) rfl).set1 1 2 (.string (Qa7 p2.b)) rfl).set1 1 3 (.string (Qa7 p3.b)) rfl;simp only [BV,BT,aC,aD];generalize Qa7 p0.b=s0 at *;generalize Qa7 p2.b=s2 at *;generalize Qa7 p3.b=s3 at *;generalize p1.n=n1 at *
   go_upto_region 7 with fail
   refine T.named4 ?_;intro w5 F5;obtain ⟨k0,k1,k2,k3⟩:=F5.r1.k4
   by_cases y0:QH s0=false
   ·rw [if_pos (by simp [y0])] at HE HT
    have j:=Yc s0 w5;rw [y0] at j
    go_wp2_with fail
    refine j.mono ?_;rintro e wx ⟨rfl,d⟩;obtain rfl:=d.symm;obtain ⟨c0,c1,c2,c3,z0,z1,z2,z3⟩:=F5.r0.f4;have HF:=F5.four (.string ⟨#[]⟩) (.int .u64 0) (.string ⟨#[]⟩) (.string ⟨#[]⟩);obtain ⟨k0,k1,k2,k3⟩:=F5.r1.k4;go_wp2;refine Ql results114 rfl HF.r0 Z1 rfl ⟨?_,HF.b⟩;rw [HE,HT];rfl
   have y0':QH s0=true:=by simpa using y0
   have j:=Yc s0 w5;rw [y0'] at j
   by_cases y2:QH s2=false
   ·rw [if_pos (by simp [y2])] at HE HT
    have q:=Yc s2 w5;rw [y2] at q
    go_wp2_with fail
    refine j.mono ?_;rintro e wx ⟨rfl,d⟩;obtain rfl:=d.symm
    go_wp2_with fail
    refine q.mono ?_;rintro e wx ⟨rfl,d⟩;obtain rfl:=d.symm;obtain ⟨c0,c1,c2,c3,z0,z1,z2,z3⟩:=F5.r0.f4;have HF:=F5.four (.string ⟨#[]⟩) (.int .u64 0) (.string ⟨#[]⟩) (.string ⟨#[]⟩);obtain ⟨k0,k1,k2,k3⟩:=F5.r1.k4;go_wp2;refine Ql results114 rfl HF.r0 Z1 rfl ⟨?_,HF.b⟩;rw [HE,HT];rfl
   have y2':QH s2=true:=by simpa using y2
   have q:=Yc s2 w5;rw [y2'] at q;have D:=Yc s3 w5
   by_cases y3:QH s3=false
   ·rw [if_pos (by simp [y3])] at HE HT
    rw [y3] at D
    go_wp2_with fail
    refine j.mono ?_;rintro e wx ⟨rfl,d⟩;obtain rfl:=d.symm
    go_wp2_with fail
    refine q.mono ?_;rintro e wx ⟨rfl,d⟩;obtain rfl:=d.symm
    go_wp2_with fail
    refine D.mono ?_;rintro e wx ⟨rfl,d⟩;obtain rfl:=d.symm;obtain ⟨c0,c1,c2,c3,z0,z1,z2,z3⟩:=F5.r0.f4;have HF:=F5.four (.string ⟨#[]⟩) (.int .u64 0) (.string ⟨#[]⟩) (.string ⟨#[]⟩);obtain ⟨k0,k1,k2,k3⟩:=F5.r1.k4;go_wp2;refine Ql results114 rfl HF.r0 Z1 rfl ⟨?_,HF.b⟩;rw [HE,HT];rfl
   have y3':QH s3=true:=by simpa using y3
   rw [y3'] at D;rw [if_neg (by simp [y0',y2',y3'])] at HE HT
   go_wp2_with fail
   refine j.mono ?_;rintro e wx ⟨rfl,d⟩;obtain rfl:=d.symm
   go_wp2_with fail
   refine q.mono ?_;rintro e wx ⟨rfl,d⟩;obtain rfl:=d.symm
   go_wp2_with fail
   refine D.mono ?_;rintro e wx ⟨rfl,d⟩;obtain rfl:=d.symm
   by_cases O:n1=0
   ·subst O
    rw [if_pos rfl] at HE HT;obtain ⟨c0,c1,c2,c3,z0,z1,z2,z3⟩:=F5.r0.f4;have HF:=F5.four (.string ⟨#[]⟩) (.int .u64 0) (.string ⟨#[]⟩) (.string ⟨#[]⟩);obtain ⟨k0,k1,k2,k3⟩:=F5.r1.k4;go_wp2;refine Ql results114 rfl HF.r0 Z1 rfl ⟨?_,HF.b⟩;rw [HE,HT];rfl
   ·rw [if_neg O] at HE HT
    obtain ⟨c0,c1,c2,c3,z0,z1,z2,z3⟩:=F5.r0.f4;have HF:=F5.four (.string s0) (.int .u64 (n1:Int)) (.string s2) (.string s3);go_wp2;refine Ql results114 rfl HF.r0 Z1 rfl ⟨?_,HF.b⟩;rw [HE,HT];rfl
 ·rw [Qp9 hc] at HE HT
  have F1:=F0.go I;have aF:=Qsu hc;have A:(c != 0)=true:=by simpa using aF
  obtain ⟨c0,c1,c2,c3,z0,z1,z2,z3⟩:=F1.r0.f4;have HF:=F1.four (.string ⟨#[]⟩) (.int .u64 0) (.string ⟨#[]⟩) (.string ⟨#[]⟩);go_wp2;refine Ql results114 rfl HF.r0 Z1 rfl ⟨?_,HF.b⟩;rw [HE,HT];rfl
def Qdp (a b:Hd):Bool:=decide (a.height=b.height) && !Qmh a b
theorem Qg6 (a b:Hd) (av bv:Value) (N:Nat) (w:World) (hN:N≤w.heap.size) (ha:HdV w N av a) (hb:HdV w N bv b) (m:Jq a=0) (q:Jq b=0) :
  Calls prog 139 #[av,bv] w fun e w'=>e=.returned (.bool (Qdp a b))∧Bd w w':=by
 have HA:=hid (fun W (hx:Bd w W)=>QmP a av N W (ha.below (hx.mono hN)) (Bh hN hx.size) m)
 have HB:=hid (fun W (hx:Bd w W)=>QmP b bv N W (hb.below (hx.mono hN)) (Bh hN hx.size) q)
 have HV:=hid (show Qdp a b=(decide (a.height=b.height) && !decide (Ji a=Ji b)) by
  unfold Qdp
  congr 2
  rw [Dj,Qqt,D2]
  exact ⟨fun h=>by rw [h],QmQ m q⟩)
 obtain ⟨x1,x2,x3,rfl,-,-,-⟩:=ha;obtain ⟨z1,z2,z3,rfl,-,-,-⟩:=hb;clear m q
 go_in
 go_upto_region 1 with fail
 refine QcS ?_;intro w0 F hs;clear hs;have HF:=hid F;clear F;apply QD (by kernel_rfl) (fun W hx=>And.intro (HF.out.go hx).r0.cell (HF.out.go hx).r1.cell) (by kernel_rfl)
 ·intro σ;simp [Qj];exact rfl
 iterate 4 (apply RK.val rfl;· intro σ W hx hc ⟨hd,hu⟩;simp at hd hu;go_simp;exact rfl)
 by_cases he:a.height=b.height
 ·have e0:(a.height == b.height)=true:=by simpa using he
  rw [BB he,Bool.true_and] at HV;clear he
  iterate 2 (apply RK.val rfl;· intro σ W hx hc ⟨hd,hu⟩;simp at hd hu;go_simp;exact rfl)
  apply RK.valW;· intro σ W hx hc ⟨hd,hu⟩;simp at hd hu;refine ⟨by simp [Region.wanted,yielded, *],?_⟩;go_simp;exact rfl
  apply RK.callGW (ByB (Ji a)) (ByB.stay _)
  ·intro σ W hx hc ⟨hd,hu⟩;simp at hd hu
   refine ⟨by simp [Region.wanted,yielded, *],_,_,by go_simp <;> first | exact rfl | exact ⟨rfl,rfl⟩,(HA.out W ((HF.out.go hx).b)).mono ?_⟩
   rintro e w' ⟨v,rfl,h,j⟩;obtain ⟨o,c,rfl,-⟩:=h.shape;exact ⟨_,rfl,j,_,_,_,rfl,h⟩
  apply RK.valW;· intro σ W hx hc ⟨hd,hu⟩;simp at hd hu;refine ⟨by simp [Region.wanted,yielded, *],?_⟩;go_simp;exact rfl
  apply RK.callGW (ByB (Ji b)) (ByB.stay _)
  ·intro σ W hx hc ⟨hd,hu⟩;simp at hd hu
   refine ⟨by simp [Region.wanted,yielded, *],_,_,by go_simp <;> first | exact rfl | exact ⟨rfl,rfl⟩,(HB.out W ((HF.out.go hx).b)).mono ?_⟩
   rintro e w' ⟨v,rfl,h,j⟩;obtain ⟨o,c,rfl,-⟩:=h.shape;exact ⟨_,rfl,j,_,_,_,rfl,h⟩
  apply RK.callGW _ (Yr.eq (.bool (decide (Ji a=Ji b))))
  ·intro σ W hx hc ⟨hd,hu⟩;simp at hd hu
   obtain ⟨⟨o,n,c,e7,h7⟩,⟨o',n',c',e9,h9⟩,h5⟩:=hd;have HE:=hid (YC (Ji a) (Ji b) _ _ W.heap.size W.heap.size W h7 h9);clear h7 h9;refine ⟨by simp [Region.wanted,yielded, *],_,_,by go_simp <;> first | exact rfl | exact ⟨rfl,rfl⟩,HE.out.mono ?_⟩
   rintro e w' ⟨rfl,rfl⟩;exact ⟨_,rfl,Bi _ _,rfl⟩
  apply RK.valW;· intro σ W hx hc ⟨hd,hu⟩;simp at hd hu;refine ⟨by simp [Region.wanted,yielded, *],?_⟩;go_simp;exact rfl
  iterate 2 (apply RK.val rfl;· intro σ W hx hc ⟨hd,hu⟩;simp at hd hu;go_simp;exact rfl)
  intro σ W hx _;simp only [Jm,Bv,Bz,Nat.reduceAdd];intro hF;obtain ⟨-,-,-,-,-,-,-,-,-,-,-,-,-,d,-⟩:=hF;have F:=HF.out.go hx;rw [d];clear hx d;go_wp2;go_ret;exact ⟨by rw [HV.out];first | done | rfl,F.b⟩
 ·have e0:(a.height == b.height)=false:=by simpa using he
  rw [BC he,Bool.false_and] at HV;clear he
  iterate 2 (apply RK.val rfl;· intro σ W hx hc ⟨hd,hu⟩;simp at hd hu;go_simp;exact rfl)
  iterate 6 (apply RK.pass;· intro σ W hx hc ⟨hd,hu⟩;simp at hd hu;simp [Region.wanted,yielded, *])
  iterate 2 (apply RK.val rfl;· intro σ W hx hc ⟨hd,hu⟩;simp at hd hu;go_simp;exact rfl)
  intro σ W hx _;simp only [Jm,Bv,Bz,Nat.reduceAdd];intro hF;obtain ⟨-,-,-,-,-,-,-,-,-,-,-,-,-,d,-⟩:=hF;have F:=HF.out.go hx;rw [d];clear hx d;go_wp2;go_ret;exact ⟨by rw [HV.out];first | done | rfl,F.b⟩
def QuO (f:FuncId):Prop:=∀ (c:Cl) (a b:Up) (now:Int) (cv av bv:Value) (N:Nat) (w:World),Qi w→N≤w.heap.size→ClV w N cv c→UpV w N av a→UpV w N bv b→c.fits→a.fits→b.fits →
 Calls prog f #[cv,av,bv,Bb now] w fun e w'=>Bd w w'∧∃ o n m,e=.returned (.tuple #[.agg #[.string (QbY c a b now).chain,Bb (QbY c a b now).trust,.bool (QbY c a b now).frozen,.slice o n m],Bb (Qd3 c a b now)])∧YQ w' w.heap.size (.slice o n m) (QbY c a b now).known
theorem Qi0 {u:Up} {now:Int} (h:Qz c u now=0):Jq u.sg.hd=0:=(QaD (QfS h).1).1
theorem Qq7: QuO 104:=by
 intro c a b now cv av bv N w E hN aC Y aB I aE aG
 have HE:=hid (show Qd3 c a b now=if QV c now≠0 then QV c now else if Qz c a now≠0 then Qz c a now else if Qz c b now≠0 then Qz c b now
  else if a.sg.hd.height≠b.sg.hd.height∨Qmh a.sg.hd b.sg.hd=true then 8 else 0 from rfl)
 have q:=hid (show QbY c a b now=if Qd3 c a b now=0 then { c with frozen:=true } else Cl.none from rfl)
 have O:=fun W (hb:Bd w W)=>QmM c now cv N W (aC.below (hb.mono hN)) (Bh hN hb.size) I
 have G:=fun (h:c.known.length≤1000) W (hb:Bd w W)=>QaE c cv N W (aC.below (hb.mono hN)) (Bh hN hb.size) I h
 obtain ⟨kv,rfl,hk⟩:=aC;obtain ⟨oa,ca,rfl,-⟩:=hk.shape;have HD:=fun (h0:QV c now=0) (u:Up) uv (hu:UpV w N uv u) (aK:u.fits) W (hb:Bd w W) gc gn (r1:Row W gc 78 [.string c.chain,Bb c.trust,.bool c.frozen,.slice oa c.known.length ca]) (r2:Row W gn 3 [Bb now])=>Qjf c u now gc gn oa ca uv N W (E.below hb E.lt) (Bh hN hb.size) r1 r2 (hk.below (hb.mono hN)) (hu.below (hb.mono hN)) I aK h0
 have A:=hid (fun h0=>HD h0 a av Y aE)
 have C:=hid (fun h0=>HD h0 b bv aB aG)
 obtain ⟨o1,c1,o2,c2,o3,c3,o4,c4,o5,c5,o6,c6,rfl,f1,f2,f3,-⟩:=Y.open;obtain ⟨r1,s1,r2,s2,r3,s3,r4,s4,r5,s5,r6,s6,rfl,g1,g2,g3,-⟩:=aB.open;have aD:=fun (h1:Qz c a now=0) (h2:Qz c b now=0) W (hb:Bd w W)=>Qg6 a.sg.hd b.sg.hd _ _ N W (Bh hN hb.size) (HdV.below (N:=N) ⟨_,_,_,rfl,f1,f2,f3⟩ (hb.mono hN)) (HdV.below (N:=N) ⟨_,_,_,rfl,g1,g2,g3⟩ (hb.mono hN)) (Qi0 h1) (Qi0 h2)
 clear f1 f2 f3 g1 g2 g3 hk Y aB I aE aG E HD
 go_in
 go_upto_region 1 with fail
 refine Qai ?_;intro w0 F hs;clear hs
 go_wp2_with (refine F.load 0 rfl Qm ?_)
 refine (O _ F.b).mono ?_;rintro e w1 ⟨rfl,hb⟩;replace F:=F.go hb;clear hb
 by_cases ha:QV c now=0
 ·replace HE:=hid (HE.out.trans (if_neg (by simp [ha])))
  replace G:=hid (G (by have:=((Yt c).1 (QaK ha).1).2.2.1;omega))
  replace A:=hid (A.out ha);replace C:=hid (C.out ha);rw [ha];clear ha O
  go_wp2_with (refine F.load 0 rfl Qm ?_)
  refine (Qhf c now oa ca c.frozen c.known.length w1).mono ?_;rintro e w2 ⟨rfl,h1,h2,hb⟩;replace F:=F.go hb;have HQ:=fun W (hb:Bd w2 W)=>And.intro (h1.below hb h1.lt) (h2.below hb h2.lt)
  clear h1 h2 hb
  go_upto_region 6 with (first | refine F.load 1 rfl Zt ?_ | refine F.load 2 rfl Zt ?_)
  refine F.box ?_;intro w3 F3 hs aA;replace HQ:=hid (fun W (hb:Bd w3 W)=>HQ W (aA.trans (hb.mono aA.size)))
  clear hs aA F
  go_wp2_with fail
  go_loopw [13,14,29] (fun _ _ i wr=>∃ k:Nat,k≤2∧i=Bb (k:Int)∧Hid (Bd w3 wr∧(1≤k→Qz c a now=0)∧(2≤k→Qz c b now=0))) (fun _ _ i _=>2-(intOf i).toNat)
  case atStart=>exact ⟨0,by omega,rfl,hid ⟨Bi _ _,fun h=>by omega,fun h=>by omega⟩⟩
  case round =>
   obtain ⟨k,hk,rfl,HI⟩:=hrel;have F:=F3.go HI.out.1;have q4:=F.r4.cell
   by_cases hlt:k<2
   ·rcases (show k=0∨k=1 by omega) with rfl | rfl
    ·go_upto_region 8 with fail
     refine F.box ?_;intro w4 F4 hs D;have hb:=HI.out.1.trans (D.mono HI.out.1.size);clear hs D q4 F
     go_wp2_with (refine F4.load 5 rfl Zt ?_)
     refine (A.out _ F4.b _ _ (HQ _ hb).1 (HQ _ hb).2).mono ?_;rintro e w5 ⟨rfl,j⟩;have FX:=F4.go j;have S:=hid (hb.trans (j.mono hb.size));clear hb j F4
     by_cases hz:Qz c a now=0
     ·have HZ:=hid hz
      rw [hz];clear hz FX
      go_wp2_with fail
      go_roundw
      case rel=>exact ⟨1,by omega,by go_num,hid ⟨S.out,fun _=>HZ.out,fun h=>by omega⟩⟩
      case measure=>simp [intOf]
     ·have HE:=hid ((fun (h:Qz c a now≠0)=>HE.out.trans (if_pos h)) hz)
      have e2:(Qz c a now != 0)=true:=by simpa using hz
      have d:=hid (q.out.trans (if_neg (by rw [HE.out];exact hz)))
      clear hz;generalize Qz c a now=z at *
      go_wp2_with (refine FX.store 3 rfl Qm (by simp) ?_;intro w6 F6 O6)
      refine Ql results104 rfl F6.r3 Qm rfl ⟨F6.b,none,0,0,by rw [d.out,HE.out];rfl,?_⟩
      rw [d.out];exact YQ.nil _ _
    ·go_upto_region 8 with fail
     refine F.box ?_;intro w4 F4 hs D;have hb:=HI.out.1.trans (D.mono HI.out.1.size);clear hs D q4 F
     go_wp2_with (refine F4.load 5 rfl Zt ?_)
     refine (C.out _ F4.b _ _ (HQ _ hb).1 (HQ _ hb).2).mono ?_;rintro e w5 ⟨rfl,j⟩;have FX:=F4.go j;have S:=hid (hb.trans (j.mono hb.size));clear hb j F4
     by_cases hz:Qz c b now=0
     ·have HZ:=hid hz
      rw [hz];clear hz FX
      go_wp2_with fail
      go_roundw
      case rel=>exact ⟨2,by omega,by go_num,hid ⟨S.out,fun _=>HI.out.2.1 (by omega),fun _=>HZ.out⟩⟩
      case measure=>simp [intOf]
     ·have HE:=hid ((fun (h:Qz c b now≠0)=>(HE.out.trans (if_neg (by simp [HI.out.2.1 (by omega)]))).trans (if_pos h)) hz)
      have e2:(Qz c b now != 0)=true:=by simpa using hz
      have d:=hid (q.out.trans (if_neg (by rw [HE.out];exact hz)))
      clear hz;generalize Qz c b now=z at *
      go_wp2_with (refine FX.store 3 rfl Qm (by simp) ?_;intro w6 F6 O6)
      refine Ql results104 rfl F6.r3 Qm rfl ⟨F6.b,none,0,0,by rw [d.out,HE.out];rfl,?_⟩
      rw [d.out];exact YQ.nil _ _
   ·obtain rfl:k=2:=by omega
    have HX:=hid (And.intro (HI.out.2.1 (by omega)) (HI.out.2.2 (by omega)))
    have q1:=F.r1.cell;have q2:=F.r2.cell;clear q4 A C HQ
    go_wp2_with fail
    refine (aD HX.out.1 HX.out.2 _ F.b).mono ?_;rintro e w5 ⟨rfl,j⟩;have FX:=F.go j;have T:=hid ((HE.out.trans (if_neg (by simp [HX.out.1]))).trans (if_neg (by simp [HX.out.2])))
    clear j F q1 q2 aD HI
    cases hz:Qdp a.sg.hd b.sg.hd with
    | false =>
     have HE:=hid (T.out.trans (if_pos (by unfold Qdp at hz;simp at hz;by_cases h:a.sg.hd.height=b.sg.hd.height <;> simp_all)))
     have d:=hid (q.out.trans (if_neg (by rw [HE.out];decide)))
     go_wp2_with (refine FX.store 3 rfl Qm (by simp) ?_;intro w6 F6 O6)
     refine Ql results104 rfl F6.r3 Qm rfl ⟨F6.b,none,0,0,by rw [d.out,HE.out];rfl,?_⟩
     rw [d.out];exact YQ.nil _ _
    | true =>
     have HE:=hid (T.out.trans (if_neg (by unfold Qdp at hz;simp at hz;simp [hz.1,hz.2])))
     have L:=hid (q.out.trans (if_pos HE.out));clear hz T
     go_upto_region 14 with fail
     go_wp2_with (refine FX.load 0 rfl Qm ?_)
     refine (G w5 FX.b).mono ?_;rintro e w6 ⟨aF,o,m,ps,rfl,M,aJ⟩;have F:=FX.go aF;have HO:=hid M;have HS:=hid FX.b.size;clear aF M FX;generalize ps.length=n at *
     go_upto_region 15 with (refine F.store 0 rfl Qm (by simp) ?_;intro w7 F7 O7)
     have aH:=hid (HO.out.only F.r0 O7);have k2:=F7.r0.cell;have z2:=F7.r0.frozen 2;clear F O7
     go_upto_region 16 with fail
     refine F7.cell 0 rfl ?_;intro w8 F8 O8;have aI:=hid (aH.out.only F7.r0 O8);clear k2 z2 F7 O8
     go_wp2_with (first | refine F8.load 0 rfl Qm ?_ | (refine F8.store 3 rfl Qm (by simp) ?_;intro w9 F9 O9))
     refine Ql results104 rfl F9.r3 Qm rfl ⟨F9.b,o,n,m,by rw [L.out,HE.out];rfl,?_⟩
     rw [L.out];exact ⟨ps,(aI.out.only F8.r3 O9).mono HS.out,aJ⟩
 ·replace HE:=hid (HE.out.trans (if_pos ha))
  have e2:(QV c now != 0)=true:=by simpa using ha
  have d:=hid (q.out.trans (if_neg (by rw [HE.out];exact ha)))
  have FX:=F;clear ha F O A C G;generalize QV c now=z at *
  go_wp2_with (refine FX.store 3 rfl Qm (by simp) ?_;intro w6 F6 O6)
  refine Ql results104 rfl F6.r3 Qm rfl ⟨F6.b,none,0,0,by rw [d.out,HE.out];rfl,?_⟩
  rw [d.out];exact YQ.nil _ _
def QkA (s:St) (m:Ms):Int:=if 4≤s.clients.length then 5 else QA (YP m.chain m.trust m.known)
def Qu3 (s:St) (m:Ms):St:=if QkA s m=0 then { s with clients:=s.clients ++ [YP m.chain m.trust m.known] } else St.none
def Qr6 (s:St) (m:Ms):Out:=⟨Qu3 s m,QkA s m,if QkA s m=0 then (s.clients.length:Int) else 0,Pk.none⟩
def Qfd (c:Cl) (m:Ms) (now:Int):Int:=if m.kind=3 then Qd3 c m.upd m.sec now else Zf c m.upd now
def QbT (c:Cl) (m:Ms) (now:Int):Cl:=if m.kind=3 then QbY c m.upd m.sec now else YL c m.upd now
def Qgh (s:St) (m:Ms):Int:=if m.client<0∨(s.clients.length:Int)≤m.client then 6 else Qfd (Qiu s m.client) m s.time
def Qmv (s:St) (m:Ms):St:=if Qgh s m=0 then { s with clients:=s.clients.set m.client.toNat (QbT (Qiu s m.client) m s.time) } else St.none
def QfI (s:St) (m:Ms):Int:=if trN m.tr [m.tr.sender]≠0 then trN m.tr [m.tr.sender] else if YO s m.fin (QF m.tr) m.tmo≠0 then YO s m.fin (QF m.tr) m.tmo else QcY s.purses m.fin.toNat m.tr
def Qqx (s:St) (m:Ms):St:=if QfI s m=0 then { Qc6 s (Jv s m.fin (QF m.tr) m.tmo) with purses:=Qb9 s.purses m.fin.toNat m.tr } else St.none
def Quh (s:St) (m:Ms):Pk:=if QfI s m=0 then Jv s m.fin (QF m.tr) m.tmo else Pk.none
def QcN (s:St) (p:Pk):Bool:=decide (Jj p.data=0) && (!ZQ (QS p.data).reader && decide (Qbv s.purses p.dst p.src (QS p.data)=0))
def Qaf (s:St) (p:Pk):St:=if QcN s p=true then { s with purses:=Qb1 s.purses p.dst p.src (QS p.data) } else s
def Qk5 (s:St) (p:Pk):Bg:=if QcN s p=true then [49] else [48]
def Qqk (s:St) (p:Pk) (z:Int):Int:=Qay (Qaf s p) p 1 z
def Qt9 (s:St) (p:Pk) (z:Int):St:=Qga (Qaf s p) p (Qk5 s p) z
def ZH (s:St) (p:Pk):Int:=if Jj p.data≠0 then 0 else QdD s.purses p.src.toNat (QS p.data)
def J9 (s:St) (p:Pk):St:=if Jj p.data≠0 then s else if QdD s.purses p.src.toNat (QS p.data)=0 then { s with purses:=Qex s.purses p.src.toNat (QS p.data) } else St.none
def QqV (s:St) (m:Ms) (z:Int):Int:=if Zp s m.pk m.ack.length z≠0∨m.ack≠[48] then Zp s m.pk m.ack.length z else ZH (Zq s m.pk m.ack.length z) m.pk
def QmK (s:St) (m:Ms) (z:Int):St:=if Zp s m.pk m.ack.length z≠0∨m.ack≠[48] then Zq s m.pk m.ack.length z else J9 (Zq s m.pk m.ack.length z) m.pk
def QrX (s:St) (m:Ms) (z:Int):Int:=if ZB s m.pk m.next m.sh.height z≠0 then ZB s m.pk m.next m.sh.height z else ZH (ZC s m.pk m.next m.sh.height z) m.pk
def Qnr (s:St) (m:Ms) (z:Int):St:=if ZB s m.pk m.next m.sh.height z≠0 then ZC s m.pk m.next m.sh.height z else J9 (ZC s m.pk m.next m.sh.height z) m.pk
def QM (s:St) (m:Ms) (z:Int):Out :=
 if m.kind=1 then Qr6 s m
 else if m.kind=2∨m.kind=3 then Y8 (Qmv s m) (Qgh s m)
 else if m.kind=4 then ⟨QlH s m.client m.other,Qau s m.client m.other,Qk6 s (Qau s m.client m.other),Pk.none⟩
 else if m.kind=5 then ⟨Qs5 s m.client m.other m.oend z,Qcl s m.client m.other m.oend z,Qk6 s (Qcl s m.client m.other m.oend z),Pk.none⟩
 else if m.kind=6 then Y8 (QqT s m.fin m.oend z) (Qio s m.fin m.oend z)
 else if m.kind=7 then Y8 (Qll s m.fin z) (QcO s m.fin z)
 else if m.kind=8 then ⟨Qfq s m.fin m.ordered,Qaq s m.fin,QcG s (Qaq s m.fin),Pk.none⟩
 else if m.kind=9 then ⟨Qlp s m.fin m.ordered m.oend z,Qag s m.fin m.oend z,QcG s (Qag s m.fin m.oend z),Pk.none⟩
 else if m.kind=10 then Y8 (Qlc s m.fin m.oend z) (QdF s m.fin m.oend z)
 else if m.kind=11 then Y8 (QcH s m.fin 2 z 3) (Zi s m.fin 2 z)
 else if m.kind=12 then Y8 (Qfs s m.fin) (Jt s m.fin 3)
 else if m.kind=13 then Y8 (QcH s m.fin 3 z 4) (Zi s m.fin 3 z)
 else if m.kind=14 then ⟨Qqx s m,QfI s m,0,Quh s m⟩
 else if m.kind=15 then Y8 (Qt9 s m.pk z) (Qqk s m.pk z)
 else if m.kind=16 then Y8 (QmK s m z) (QqV s m z)
 else if m.kind=17 then Y8 (Qnr s m z) (QrX s m z)
 else if m.kind=18 then Qjm s m
 else Y8 s 1
def Qo9 (s:St) (m:Ms) (z:Int):Prop :=
 if m.kind=5 then QmL s m.client m.other m.oend m.sh z
 else if m.kind=6 then Qj1 s m.fin m.oend m.sh z
 else if m.kind=7 then Qgx s m.fin m.sh z
 else if m.kind=9 then QaS s ⟨2,m.ordered,m.fin,m.oend,0,0,0⟩ 1 (-1) m.sh z
 else if m.kind=10 then QaS s ⟨3,(Qx s m.fin).ordered,(Qx s m.fin).conn,m.oend,0,0,0⟩ 2 m.fin m.sh z
 else if m.kind=11 then QaS s ⟨2,(Qx s m.fin).ordered,(Qx s m.fin).conn,(Qx s m.fin).ochan,0,0,0⟩ 3 m.fin m.sh z
 else if m.kind=13 then QaS s ⟨3,(Qx s m.fin).ordered,(Qx s m.fin).conn,(Qx s m.fin).ochan,0,0,0⟩ 4 m.fin m.sh z
 else if m.kind=15 then Qew s m.pk m.sh z
 else if m.kind=16 then Qgy s m.pk m.ack m.sh z
 else if m.kind=17 then Qdn s m.pk m.next m.sh z
 else True
theorem Qpa (s:St) (m:Ms):∃ z,Qo9 s m z:=by
 unfold Qo9
 by_cases h5:m.kind=5
 ·simp only [if_pos h5]
  unfold QmL JJ;exact QT.some _ _ _ _
 simp only [if_neg h5]
 by_cases h6:m.kind=6
 ·simp only [if_pos h6]
  unfold Qj1 JJ;exact QT.some _ _ _ _
 simp only [if_neg h6]
 by_cases h7:m.kind=7
 ·simp only [if_pos h7]
  unfold Qgx JJ;exact QT.some _ _ _ _
 simp only [if_neg h7]
 by_cases h9:m.kind=9
 ·simp only [if_pos h9]
  unfold QaS JJ;exact QT.some _ _ _ _
 simp only [if_neg h9]
 by_cases b:m.kind=10
 ·simp only [if_pos b]
  unfold QaS JJ;exact QT.some _ _ _ _
 simp only [if_neg b]
 by_cases d:m.kind=11
 ·simp only [if_pos d]
  unfold QaS JJ;exact QT.some _ _ _ _
 simp only [if_neg d]
 by_cases e:m.kind=13
 ·simp only [if_pos e]
  unfold QaS JJ;exact QT.some _ _ _ _
 simp only [if_neg e]
 by_cases j:m.kind=15
 ·simp only [if_pos j]
  exact QT.some _ _ _ _
 simp only [if_neg j]
 by_cases q:m.kind=16
 ·simp only [if_pos q]
  exact QT.some _ _ _ _
 simp only [if_neg q]
 by_cases A:m.kind=17
 ·simp only [if_pos A]
  by_cases ho:(Qx s m.pk.src).ordered=true
  ·simp only [Qdn,if_pos ho];exact QT.some _ _ _ _
  ·simp only [Qdn,if_neg ho];exact QT.some _ _ _ _
 simp only [if_neg A];exact ⟨0,trivial⟩
def doO (s:St) (m:Ms) (z:Int):Out:=if Qd s≠0 then Y8 St.none (Qd s) else if (QM s m z).err≠0 then Y8 s (QM s m z).err else QM s m z
end Go.Proofs.YtnedafiokmjkkaaGreatDoor
