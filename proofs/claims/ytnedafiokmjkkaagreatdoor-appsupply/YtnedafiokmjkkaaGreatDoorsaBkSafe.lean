/- Safes, and how that is called which came over a channel. -/
import Derived.Test.YtnedafiokmjkkaaGreatDoorsaBkPut
import Derived.Shelf.Strconv.Itoa3
import Derived.Shelf.Strings.Prefix
import Derived.Laws.Concat
namespace Go.Proofs.YtnedafiokmjkkaaGreatDoor
open Tryz
set_option maxRecDepth 1000000
set_option maxHeartbeats 8000000
open Go.RowKit
theorem Row.k1 {w:World} {g:Nat} {t:TypeId} {x0:Value} (h:Row w g t [x0]):w.cell? ⟨g,0,none⟩=some x0:=h.cell 0
theorem Qsn (a n g:Nat) (w:World) (hr:Row w g 47 [.int .u64 (n:Int)]) (h:a+n<18446744073709551616):Calls prog 175 #[.int .u64 (a:Int),.pointer (some ⟨g,0,none⟩)] w fun e w'=>e=.returned (.int .u64 ((a+n:Nat):Int))∧Bd w w':=by
 have k:=hr.k1;have hx:IntKind.u64.wrap ((a:Int)+(n:Int))=((a+n:Nat):Int):=by rw [Ek];omega
 clear hr
 go_in
 go_wp2;go_ret;exact ⟨by first | rfl | simp,Bi _ _⟩
theorem Qsf (a n g:Nat) (w:World) (hr:Row w g 47 [.int .u64 (n:Int)]) (ha:a<18446744073709551616) (h:n≤a):Calls prog 162 #[.int .u64 (a:Int),.pointer (some ⟨g,0,none⟩)] w fun e w'=>e=.returned (.int .u64 ((a-n:Nat):Int))∧Bd w w':=by
 have k:=hr.k1;obtain ⟨b,hb⟩:∃ b,a-n=b:=⟨_,rfl⟩;have hx:IntKind.u64.wrap ((a:Int)-(n:Int))=(b:Int):=by rw [Ek];omega
 rw [hb];clear hr hb
 go_in
 go_wp2;go_ret;exact ⟨rfl,Bi _ _⟩
theorem Qlv (l:List Pu) (o d:ByteArray) (n:Nat) (sv:Value) (N:Nat) (w:World) (hN:N≤w.heap.size) (hl:Qt PuR 3 w N sv l) (hr:QT l) (G:l.length≤60) :
  Calls prog 125 #[sv,.string o,.string d,.int .u64 (n:Int)] w fun e w'=>Bd w w'∧∃ v,e=.returned (.tuple #[v,Bb (Qal l o d n)])∧J3 w.heap.size w' v (Qbl l o d n):=by
 have L:=hid (show (QH o && QH d)=false→Qal l o d n=4 from fun h=>if_pos h)
 have S:=hid (show (QH o && QH d)=false→Qbl l o d n=[] from fun h=>by unfold Qbl;rw [L.out h];rfl)
 obtain ⟨oa,ca,rfl,-⟩:=hl.shape;have HL:=hid hl;have M:=hid hr;have E:=hid G;have q:=hid (Ye o);have A:=hid (Ye d);generalize aA:l.length=m at *;have HM:=hid aA;clear hl hr aA G
 go_in
 go_upto_region 1 with fail
 refine JQ ?_;intro w0 F aI;have HB:=hid F.b;have HG:=hid (fun W (hb:Bd w0 W)=>(F.go hb).r0)
 have hk:=F.r0.k1;replace HL:=hid (HL.out.below PuR.stays (F.b.mono hN));replace hN:=Bh hN F.b.size;clear F aI
 by_cases e1:QH o=false
 ·rw [e1] at q
  go_wp2_with fail
  refine (q.out _).mono ?_;rintro e wx ⟨rfl,j⟩;obtain rfl:=j.symm;go_wp2;go_ret2;exact ⟨HB.out,_,by rw [L.out (by simp [e1])];rfl,by rw [S.out (by simp [e1])];exact J3.nil _ _⟩
 have D:QH o=true:=by simpa using e1
 clear e1
 by_cases e2:QH d=false
 ·rw [D] at q
  rw [e2] at A
  go_wp2_with fail
  refine (q.out _).mono ?_;rintro e wx ⟨rfl,j⟩;obtain rfl:=j.symm
  go_wp2_with fail
  refine (A.out _).mono ?_;rintro e wx ⟨rfl,j⟩;obtain rfl:=j.symm;go_wp2;go_ret2;exact ⟨HB.out,_,by rw [L.out (by simp [e2])];rfl,by rw [S.out (by simp [e2])];exact J3.nil _ _⟩
 have O:QH d=true:=by simpa using e2
 clear e2;rw [D] at q;rw [O] at A;have aE:=hid (show ¬ (QH o && QH d)=false by simp [D,O])
 clear D O
 go_wp2_with fail
 refine (q.out _).mono ?_;rintro e wx ⟨rfl,j⟩;obtain rfl:=j.symm
 go_wp2_with fail
 refine (A.out _).mono ?_;rintro e wx ⟨rfl,j⟩;obtain rfl:=j.symm;have aC:=hid (fun W (hb:Bd w0 W)=>QgU l o d _ N W (Bh hN hb.size) (HL.out.below PuR.stays (hb.mono hN)) M.out.sort (by have:=E.out;have:=HM.out;omega))
 have aH:=Qja M.out o d;have aB:=hid (fun W x aG aF (hb:Bd w0 W)=>Qf0 l o d x aG aF _ N W (Bh hN hb.size) (HL.out.below PuR.stays (hb.mono hN)) M.out.sort (by have:=E.out;have:=HM.out;omega))
 have z:=hid (show Qal l o d n=if Q7 l o d<n then 8 else 0 from if_neg aE.out)
 have T:=hid (show Qbl l o d n=if Qal l o d n≠0 then [] else QcL l o d (Q7 l o d-n) from rfl)
 generalize ea:Q7 l o d=a at *
 go_upto_region 3 with fail
 apply QJ (by kernel_rfl) (fun W hb=>(HG.out W hb).k1) (by kernel_rfl)
 ·intro σ;simp [Ql];exact rfl
 iterate 3 (apply RK.val rfl;· intro σ W hb hc hd;simp [Has] at hd;go_simp;exact rfl)
 apply RK.callV rfl
 ·intro σ W hb hc hd;simp [Has] at hd;go_simp;exact ⟨rfl,rfl⟩
 ·intro W hb _;exact aC.out W hb
 iterate 3 (apply RK.val rfl;· intro σ W hb hc hd;simp [Has] at hd;go_simp;exact rfl)
 intro σ W hb _ hF;simp [JE] at hF;go_simp;clear hF;have I:=hgo HB hb
 by_cases C:a<n
 ·have e1:decide (a<n)=true:=by simpa using C
  rw [if_pos C] at z;go_wp2;go_ret2;exact ⟨I.out,_,by rw [z.out];rfl,by rw [T.out,if_pos (by rw [z.out];decide)];exact J3.nil _ _⟩
 ·have e1:decide (a<n)=false:=by simpa using C
  rw [if_neg C] at z
  have HY:=hid (aB.out W (a-n) 162 (.pointer (some ⟨w.heap.size,0,none⟩)) hb (fun _ _=>rfl) (fun X hX=>by
   exact Qsf a n w.heap.size X (HG.out X (hb.trans (hX.mono hb.size))) aH (by omega)))
  clear hb
  go_wp2_with fail
  refine HY.out.mono ?_;rintro e w2 ⟨Y,v,rfl,hv⟩;have HV:=hid (hv.down I.out.size);have aD:=hgo I Y;clear hv Y;go_wp2;go_ret2;exact ⟨aD.out,v,by rw [z.out];rfl,by rw [T.out,if_neg (by rw [z.out];decide)];exact HV.out⟩
theorem QhO (l:List Pu) (o d:ByteArray) (n:Nat) (sv:Value) (N:Nat) (w:World) (hN:N≤w.heap.size) (hl:Qt PuR 3 w N sv l) (hr:QT l) (aB:l.length≤60) (hn:n<18446744073709551616) :
  Calls prog 136 #[sv,.string o,.string d,.int .u64 (n:Int)] w fun e w'=>Bd w w'∧∃ v,e=.returned (.tuple #[v,Bb (Qbs l o d n)])∧J3 w.heap.size w' v (QaD l o d n):=by
 have aE:=hid (show (QH o && QH d)=false→Qbs l o d n=4 from fun h=>if_pos h)
 have aJ:=hid (show (QH o && QH d)=false→QaD l o d n=[] from fun h=>by unfold QaD;rw [aE.out h];rfl)
 obtain ⟨oa,ca,rfl,-⟩:=hl.shape;have HL:=hid hl;have aG:=hid hr;have D:=hid aB;have E:=hid (Ye o);have O:=hid (Ye d);generalize aK:l.length=m at *;have HM:=hid aK;clear hl hr aK aB
 go_in
 go_upto_region 1 with fail
 refine JQ ?_;intro w0 F aS;have HB:=hid F.b;have HG:=hid (fun W (hb:Bd w0 W)=>(F.go hb).r0)
 have hk:=F.r0.k1;replace HL:=hid (HL.out.below PuR.stays (F.b.mono hN));replace hN:=Bh hN F.b.size;clear F aS
 by_cases e1:QH o=false
 ·rw [e1] at E
  go_wp2_with fail
  refine (E.out _).mono ?_;rintro e wx ⟨rfl,z⟩;obtain rfl:=z.symm;go_wp2;go_ret2;exact ⟨HB.out,_,by rw [aE.out (by simp [e1])];rfl,by rw [aJ.out (by simp [e1])];exact J3.nil _ _⟩
 have aA:QH o=true:=by simpa using e1
 clear e1
 by_cases e2:QH d=false
 ·rw [aA] at E
  rw [e2] at O
  go_wp2_with fail
  refine (E.out _).mono ?_;rintro e wx ⟨rfl,z⟩;obtain rfl:=z.symm
  go_wp2_with fail
  refine (O.out _).mono ?_;rintro e wx ⟨rfl,z⟩;obtain rfl:=z.symm;go_wp2;go_ret2;exact ⟨HB.out,_,by rw [aE.out (by simp [e2])];rfl,by rw [aJ.out (by simp [e2])];exact J3.nil _ _⟩
 have aI:QH d=true:=by simpa using e2
 clear e2;rw [aA] at E;rw [aI] at O;have aP:=hid (show ¬ (QH o && QH d)=false by simp [aA,aI])
 clear aA aI
 go_wp2_with fail
 refine (E.out _).mono ?_;rintro e wx ⟨rfl,z⟩;obtain rfl:=z.symm
 go_wp2_with fail
 refine (O.out _).mono ?_;rintro e wx ⟨rfl,z⟩;obtain rfl:=z.symm;have j:=hid (show Qbs l o d n=if n=0 then 0 else if 18446744073709551616≤Q8 l d+n then 3 else if 60≤l.length∧Q7 l o d=0 then 5 else 0 from if_neg aP.out)
 have G:=hid (show QaD l o d n=if Qbs l o d n≠0 then [] else if n=0 then l else QcL l o d (Q7 l o d+n) from rfl)
 have aO:=hid (QoL (Zz l) _ N w0 HL.out.recsU hN (QmC l) (by have:=D.out;have:=HM.out;simp [Zz];omega))
 have M:=hid (Qne l d n _ N w0 hN HL.out (fun p hp=>(aG.out.ok p hp).2.2.2) (by have:=D.out;have:=HM.out;omega) hn)
 have aM:=hid (fun W (hb:Bd w0 W)=>QgU l o d _ N W (Bh hN hb.size) (HL.out.below PuR.stays (hb.mono hN)) aG.out.sort (by have:=D.out;have:=HM.out;omega))
 have aL:=hid (fun W x aR aQ (hb:Bd w0 W)=>Qf0 l o d x aR aQ _ N W (Bh hN hb.size) (HL.out.below PuR.stays (hb.mono hN)) aG.out.sort (by have:=D.out;have:=HM.out;omega))
 have aN:=hid (Qb2 l o d)
 by_cases I:n=0
 ·subst I
  rw [if_pos rfl] at j
  go_wp2_with fail
  refine aO.out.mono ?_;rintro e w2 ⟨q,v,rfl,hv⟩;have HV:=hid (J3.down (show J3 w0.heap.size w2 v l from hv) HB.out.size);have A:=hgo HB q;clear hv q;go_wp2;go_ret2;exact ⟨A.out,v,by rw [j.out];rfl,by rw [G.out,if_neg (by rw [j.out];decide),if_pos (by trivial)];exact HV.out⟩
 have b0:((n:Int) == 0)=false:=by simp;exact I
 have b0':(n == 0)=false:=by simpa using I
 rw [if_neg I] at j G;generalize es:Q8 l d=s at *;generalize ea:Q7 l o d=a at *;have HNZ:=hid I;clear I
 by_cases Y:18446744073709551616≤s+n
 ·rw [BB Y] at M
  rw [if_pos Y] at j
  go_wp2_with fail
  refine M.out.mono ?_;rintro e w2 ⟨rfl,q⟩;have A:=hgo HB q;clear q;go_wp2;go_ret2;exact ⟨A.out,_,by rw [j.out];rfl,by rw [G.out,if_pos (by rw [j.out];decide)];exact J3.nil _ _⟩
 rw [BD Y] at M;rw [if_neg Y,HM.out] at j
 go_wp2_with fail
 refine M.out.mono ?_;rintro e w2 ⟨rfl,q⟩;have A:=hgo HB q;have C:=hid q;clear q
 have GO:=hid (show ∀ W,Bd w2 W→Calls prog 161 #[.slice oa m ca,.string o,.string d,.func (.func 175) #[] #[.pointer (some ⟨w.heap.size,0,none⟩)]] W fun e w'=>Bd W w'∧∃ v,e=.returned v∧J3 W.heap.size w' v (QcL l o d (a+n)) from fun W hb =>
  aL.out W (a+n) 175 _ (C.out.trans (hb.mono C.out.size)) (fun _ _=>rfl) (fun X hX=>by
   exact Qsn a n w.heap.size X (HG.out X ((C.out.trans (hb.mono C.out.size)).trans (hX.mono (C.out.trans (hb.mono C.out.size)).size))) (by have:=aN.out;omega)))
 by_cases S:60≤m
 ·have q1:decide ((60:Int)≤(m:Int))=true:=by simp;omega
  have q2:decide (60≤m)=true:=by simpa using S
  go_wp2_with fail
  refine (aM.out _ C.out).mono ?_;rintro e w3 ⟨rfl,aH⟩;have aC:=hgo A aH;have aF:=hid (GO.out w3 aH);clear aH
  by_cases T:a=0
  ·subst T
   rw [if_pos ⟨S,rfl⟩] at j;go_wp2;go_ret2;exact ⟨aC.out,_,by rw [j.out];rfl,by rw [G.out,if_pos (by rw [j.out];decide)];exact J3.nil _ _⟩
  ·rw [if_neg (fun h=>T h.2)] at j
   have q3:((a:Int) == 0)=false:=by simp;exact T
   have q4:(a == 0)=false:=by simpa using T
   go_wp2_with fail
   refine aF.out.mono ?_;rintro e w4 ⟨L,v,rfl,hv⟩;have HV:=hid (hv.down aC.out.size);have aD:=hgo aC L;clear hv L;go_wp2;go_ret2;exact ⟨aD.out,v,by rw [j.out];rfl,by rw [G.out,if_neg (by rw [j.out];decide)];exact HV.out⟩
 ·rw [if_neg (fun h=>S h.1)] at j
  have q1:decide ((60:Int)≤(m:Int))=false:=by simp;omega
  have q2:decide (60≤m)=false:=by simpa using S
  have aF:=hid (GO.out w2 (Bi _ _))
  go_wp2_with fail
  refine aF.out.mono ?_;rintro e w4 ⟨L,v,rfl,hv⟩;have HV:=hid (hv.down A.out.size);have aD:=hgo A L;clear hv L;go_wp2;go_ret2;exact ⟨aD.out,v,by rw [j.out];rfl,by rw [G.out,if_neg (by rw [j.out];decide)];exact HV.out⟩
theorem Qe2 (l:List Pu) (a b d:ByteArray) (n:Nat) (sv:Value) (N:Nat) (w:World) (hN:N≤w.heap.size) (hl:Qt PuR 3 w N sv l) (hr:QT l) (j:l.length≤60) (hn:n<18446744073709551616) :
  Calls prog 99 #[sv,.string a,.string b,.string d,.int .u64 (n:Int)] w fun e w'=>Bd w w'∧∃ v,e=.returned (.tuple #[v,Bb (Qas l a b d n)])∧J3 w.heap.size w' v (J9 l a b d n):=by
 have HC:=hid (Qlv l a d n sv N w hN hl hr j);obtain ⟨oa,ca,rfl,-⟩:=hl.shape;have HR:=hid hr;have HE:=hid (show Qas l a b d n=if Qal l a d n≠0 then Qal l a d n else Qbs (Qbl l a d n) b d n from rfl)
 have HL:=hid (show J9 l a b d n=if Qal l a d n≠0 then [] else QaD (Qbl l a d n) b d n from rfl)
 have E:=hid (fun h=>(QeI (n:=n) (o:=a) (d:=d) hr h).right)
 have G:=hid (fun h=>Bh (QeI (n:=n) (o:=a) (d:=d) hr h).len j)
 clear hl hr j;generalize l.length=m at *
 go_in
 go_wp2_with fail
 refine HC.out.mono ?_;rintro e w1 ⟨z,v,rfl,hv⟩;generalize Qal l a d n=be at *;have q:=hid z;have HV:=hid hv.now;obtain ⟨o1,c1,rfl,-⟩:=hv.shape;clear z hv HC
 by_cases h0:be=0
 ·subst h0
  rw [if_neg (by simp)] at HE HL
  have HM:=hid (QhO (Qbl l a d n) b d n _ _ w1 (Bj _) HV.out (E.out rfl) (G.out rfl) hn);generalize (Qbl l a d n).length=m1 at *
  go_wp2_with fail
  refine HM.out.mono ?_;rintro e w2 ⟨A,v2,rfl,C⟩;have I:=hid (C.down q.out.size);have D:=hgo q A;clear A C;go_wp2;go_ret2;exact ⟨D.out,v2,by rw [HE.out];rfl,by rw [HL.out];exact I.out⟩
 ·have q1:(be != 0)=true:=by simpa using h0
  rw [if_pos h0] at HE HL;go_wp2;go_ret2;exact ⟨q.out,_,by rw [HE.out];rfl,by rw [HL.out];exact J3.nil _ _⟩
end Go.Proofs.YtnedafiokmjkkaaGreatDoor
namespace Go.Proofs
open Tryz
open Go.Shelf
def laysItoa171_ren:Go.Shelf.Ren:=⟨fun | 171=>159 | 243=>199 | 246=>230 | 283=>253 | 284=>254 | 285=>255 | 286=>256 | 129=>271 | 317=>270 | 318=>272 | 319=>273 | 320=>274 | 337=>282 | 338=>283 | n=>n,fun | 3=>3 | 9=>9 | 2=>2 | 4=>4 | 171=>313 | 0=>0 | 53=>47 | 37=>29 | 5=>5 | 173=>316 | 212=>328 | 51=>226 | 20=>20 | 213=>329 | 46=>261 | 232=>337 | 233=>228 | n=>n,fun | 17=>2 | 18=>3 | 19=>4 | n=>n⟩
theorem laysItoa171:Go.Proofs.LaysM.n171 prog laysItoa171_ren:={
 mixed:=by kernel_rfl
 f129:=func271.trans (congrArg some (by kernel_rfl))
 f171:=func159.trans (congrArg some (by kernel_rfl))
 f243:=func199.trans (congrArg some (by kernel_rfl))
 f246:=func230.trans (congrArg some (by kernel_rfl))
 f283:=func253.trans (congrArg some (by kernel_rfl))
 f284:=func254.trans (congrArg some (by kernel_rfl))
 f285:=func255.trans (congrArg some (by kernel_rfl))
 f286:=func256.trans (congrArg some (by kernel_rfl))
 f317:=func270.trans (congrArg some (by kernel_rfl))
 f318:=func272.trans (congrArg some (by kernel_rfl))
 f319:=func273.trans (congrArg some (by kernel_rfl))
 f320:=func274.trans (congrArg some (by kernel_rfl))
 f337:=func282.trans (congrArg some (by kernel_rfl))
 f338:=func283.trans (congrArg some (by kernel_rfl))
 t0:=underlying0
 a0:=isAgg0
 z0:=sizeOf0
 v0:=zeroValue0
 t2:=underlying2
 a2:=isAgg2
 z2:=sizeOf2
 v2:=zeroValue2
 t3:=underlying3
 a3:=isAgg3
 z3:=sizeOf3
 v3:=zeroValue3
 t4:=underlying4
 a4:=isAgg4
 z4:=sizeOf4
 v4:=zeroValue4
 t5:=underlying5
 a5:=isAgg5
 z5:=sizeOf5
 v5:=zeroValue5
 t9:=underlying9
 a9:=isAgg9
 z9:=sizeOf9
 v9:=zeroValue9
 t20:=underlying20
 a20:=isAgg20
 z20:=sizeOf20
 v20:=zeroValue20
 t37:=underlying29
 a37:=isAgg29
 z37:=sizeOf29
 v37:=zeroValue29
 t46:=underlying261
 a46:=isAgg261
 z46:=sizeOf261
 v46:=zeroValue261
 t51:=underlying226
 a51:=isAgg226
 z51:=sizeOf226
 v51:=zeroValue226
 t53:=underlying47
 a53:=isAgg47
 z53:=sizeOf47
 v53:=zeroValue47
 t171:=underlying313
 a171:=isAgg313
 z171:=sizeOf313
 v171:=zeroValue313
 t173:=underlying316
 a173:=isAgg316
 z173:=sizeOf316
 v173:=zeroValue316
 t212:=underlying328
 a212:=isAgg328
 z212:=sizeOf328
 v212:=zeroValue328
 t213:=underlying329
 a213:=isAgg329
 z213:=sizeOf329
 t232:=underlying337
 a232:=isAgg337
 z232:=sizeOf337
 v232:=zeroValue337
 t233:=underlying228
 a233:=isAgg228
 z233:=sizeOf228
 v233:=zeroValue228
 g17:=by kernel_rfl
 g18:=by kernel_rfl
 g19:=by kernel_rfl
 i0:=by kernel_rfl
 i2:=by kernel_rfl
 i3:=by kernel_rfl
 i4:=by kernel_rfl
 i5:=by kernel_rfl
 i9:=by kernel_rfl
 i20:=by kernel_rfl
 i37:=by kernel_rfl
 i46:=by kernel_rfl
 i51:=by kernel_rfl
 i53:=by kernel_rfl
 i171:=by kernel_rfl
 i173:=by kernel_rfl
 i212:=by kernel_rfl
 i232:=by kernel_rfl
 i233:=by kernel_rfl
 m17:=by kernel_rfl
 m18:=by kernel_rfl
 m19:=by kernel_rfl }
def laysPre99_ren:Go.Shelf.Ren:=⟨fun | 99=>123 | 206=>158 | n=>n,fun | 9=>9 | 4=>4 | 3=>3 | n=>n,fun | n=>n⟩
theorem laysPre99:Go.Proofs.Lays.n99 prog laysPre99_ren:={
 mixed:=by kernel_rfl
 f99:=func123.trans (congrArg some (by kernel_rfl))
 f206:=func158.trans (congrArg some (by kernel_rfl))
 t3:=underlying3
 a3:=isAgg3
 z3:=sizeOf3
 v3:=zeroValue3
 t4:=underlying4
 a4:=isAgg4
 z4:=sizeOf4
 v4:=zeroValue4
 t9:=underlying9
 a9:=isAgg9
 z9:=sizeOf9
 v9:=zeroValue9 }
end Go.Proofs
namespace Go.Proofs.YtnedafiokmjkkaaGreatDoor
open Tryz
set_option maxRecDepth 1000000
set_option maxHeartbeats 8000000
open Go.RowKit
def QfF (n:Nat):ByteArray:=⟨(Lib.decDigits n).toArray⟩
def Zf (n:Nat):ByteArray:=⟨#[35]⟩ ++ QfF n
def ZQ (n:Nat):ByteArray:=QfF n ++ ⟨#[47]⟩
def Jn (d:ByteArray) (n:Nat):Bool:=Lib.hasPrefix d.data.toList (ZQ n).data.toList
def QrK (d:ByteArray) (n:Nat):ByteArray:=d.extract (ZQ n).size d.size
def QbF (l:List Pu) (ch:Nat) (t:Tr):Int:=if Jn t.denom ch=true then Qal l t.sender t.denom t.amount else Qas l t.sender (Zf ch) t.denom t.amount
def Qa6 (l:List Pu) (ch:Nat) (t:Tr):List Pu:=if Jn t.denom ch=true then Qbl l t.sender t.denom t.amount else J9 l t.sender (Zf ch) t.denom t.amount
def QcB (l:List Pu) (ch:Nat) (t:Tr):Int:=if Jn t.denom ch=true then Qbs l t.sender t.denom t.amount else Qas l (Zf ch) t.sender t.denom t.amount
def QcT (l:List Pu) (ch:Nat) (t:Tr):List Pu:=if Jn t.denom ch=true then QaD l t.sender t.denom t.amount else J9 l (Zf ch) t.sender t.denom t.amount
theorem QfG (n:Nat) (h:n≤9223372036854775807):(QfF n).size≤21:=by
 have:=Lib.itoa_length_le (n:Int) (by omega) (by omega)
 rw [Lib.itoa_nonneg] at this;unfold QfF;simpa [ByteArray.size] using this
theorem Ql4 (n:Nat) (h:n≤9223372036854775807) (w:World) (hp:QL w):Calls prog 159 #[Bb (n:Int)] w fun e w'=>e=.returned (.string (QfF n))∧Bd w w':=by
 refine (Any.strconv_Itoa laysItoa171 (n:Int) (by omega) (by omega) w hp).mono ?_
 rintro e w' ⟨rfl,k,os,rfl⟩;refine ⟨by rw [Lib.itoa_nonneg];rfl,⟨rfl,rfl,rfl,?_,fun j hj=>?_⟩⟩
 ·show w.heap.size≤(w.heap ++ os).size
  simp
 ·show (w.heap ++ os)[j]?=w.heap[j]?
  rw [Array.getElem?_append_left hj]
theorem Qh6 (n:Nat) (h:n≤9223372036854775807) (w:World) (hp:QL w):Calls prog 126 #[Bb (n:Int)] w fun e w'=>e=.returned (.string (Zf n))∧Bd w w':=by
 have HC:=hid (Ql4 n h w hp);have hq:∀ W:World,(Op.stringOp .add ⟨#[35]⟩ (QfF n)).run prog W=.ok (.string (Zf n)) W:=fun W=>DT W _ _ (by have:=QfG n h;show 1+_≤_;omega)
 clear hp
 go_in
 go_wp2_with fail
 refine HC.out.mono ?_;rintro e w1 ⟨rfl,hb⟩;have HB:=hid hb;clear hb;go_wp2;go_ret;exact ⟨rfl,HB.out⟩
theorem QeJ (n:Nat) (h:n≤9223372036854775807) (w:World) (hp:QL w):Calls prog 124 #[Bb (n:Int)] w fun e w'=>e=.returned (.string (ZQ n))∧Bd w w':=by
 have HC:=hid (Ql4 n h w hp);have hq:∀ W:World,(Op.stringOp .add (QfF n) ⟨#[47]⟩).run prog W=.ok (.string (ZQ n)) W:=fun W=>DT W _ _ (by have:=QfG n h;show _+1≤_;omega)
 clear hp
 go_in
 go_wp2_with fail
 refine HC.out.mono ?_;rintro e w1 ⟨rfl,hb⟩;have HB:=hid hb;clear hb;go_wp2;go_ret;exact ⟨rfl,HB.out⟩
def PuB (B:Nat) (l:List Pu) (X:Value) (W:World):Prop:=∃ o n c,X=.slice o n c∧J3 B W (.slice o n c) l
theorem PuB.stay (B:Nat) (l:List Pu):Yq (PuB B l):=fun _ _ _ hb ⟨o,n,c,e,h⟩=>⟨o,n,c,e,h.past hb⟩
def PuE (B:Nat) (E:Int) (l:List Pu) (X:Value) (W:World):Prop:=∃ o n c,X=.tuple #[.slice o n c,Bb E]∧J3 B W (.slice o n c) l
theorem PuE.stay (B:Nat) (E:Int) (l:List Pu):Yq (PuE B E l):=fun _ _ _ hb ⟨o,n,c,e,h⟩=>⟨o,n,c,e,h.past hb⟩
theorem Qk2 {f:FuncId} {b:Array Value} {B:Nat} {W:World} {E:Int} {l:List Pu} (hB:B≤W.heap.size) (h:Calls prog f b W fun e w'=>Bd W w'∧∃ v,e=.returned (.tuple #[v,Bb E])∧J3 W.heap.size w' v l):Calls prog f b W fun e w'=>∃ v,e=.returned v∧Bd W w'∧PuE B E l v w':=by
 refine h.mono ?_;rintro e w' ⟨hb,v,rfl,hv⟩;obtain ⟨o,c,rfl,-⟩:=hv.shape;exact ⟨_,rfl,hb,o,_,c,rfl,hv.down hB⟩
theorem Qeq (s p:ByteArray) (w:World):Calls prog 123 #[.string s,.string p] w fun e w'=>e=.returned (.bool (Lib.hasPrefix s.data.toList p.data.toList))∧Bd w w':=by
 refine (Any.strings_HasPrefix laysPre99 s p w).mono ?_;rintro e w' ⟨rfl,rfl⟩;exact ⟨rfl,Bi _ _⟩
theorem Qqe (l:List Pu) (ch:Nat) (t:Tr) (sv:Value) (N:Nat) (w:World) (hp:QL w) (hN:N≤w.heap.size) (hl:Qt PuR 3 w N sv l) (hr:QT l) (A:l.length≤60) (hn:t.amount<18446744073709551616) (hc:ch≤9223372036854775807) :
  Calls prog 92 #[sv,Bb (ch:Int),.agg #[.string t.denom,.int .u64 (t.amount:Int),.string t.sender,.string t.reader]] w fun e w'=>Bd w w'∧∃ v,e=.returned (.tuple #[v,Bb (QbF l ch t)])∧J3 w.heap.size w' v (Qa6 l ch t):=by
 obtain ⟨oa,ca,rfl,-⟩:=hl.shape;have HL:=hid (fun W (hb:Bd w W)=>And.intro (Bh hN hb.size) (hl.below PuR.stays (hb.mono hN)))
 have HR:=hid (And.intro hr A);have HE:=hid (show QbF l ch t=if Jn t.denom ch=true then Qal l t.sender t.denom t.amount else Qas l t.sender (Zf ch) t.denom t.amount from rfl)
 have z:=hid (show Qa6 l ch t=if Jn t.denom ch=true then Qbl l t.sender t.denom t.amount else J9 l t.sender (Zf ch) t.denom t.amount from rfl)
 have HP:=hid (fun W (hb:Bd w W)=>hp.below hb)
 have M:=hid (show ∀ W,Calls prog 123 #[.string t.denom,.string (ZQ ch)] W fun e w'=>e=.returned (.bool (Jn t.denom ch))∧Bd W w' from fun W=>Qeq _ _ W)
 have G:=hid (fun W (hb:Bd w W)=>Qlv l t.sender t.denom t.amount _ N W (HL.out W hb).1 (HL.out W hb).2 HR.out.1 HR.out.2)
 have L:=hid (fun W (hb:Bd w W)=>Qe2 l t.sender (Zf ch) t.denom t.amount _ N W (HL.out W hb).1 (HL.out W hb).2 HR.out.1 HR.out.2 hn)
 clear hp;clear hl hr A;generalize l.length=m at *
 go_in
 go_upto_region 1 with fail
 refine JQ ?_;intro w0 F0 hs;have HF:=hid (fun W (hb:Bd w0 W)=>F0.go hb)
 clear F0 hs;apply QJ (by kernel_rfl) (fun W hb=>(HF.out W hb).r0.k4) (by kernel_rfl)
 ·intro σ;simp [Ql];exact rfl
 iterate 3 (apply RK.val rfl;· intro σ W hb hc ⟨hd,hu⟩;simp at hd hu;go_simp;exact rfl)
 apply RK.callV rfl
 ·intro σ W hb hc ⟨hd,hu⟩;simp at hd hu;go_simp;exact ⟨rfl,rfl⟩
 ·intro W hb _;exact QeJ ch hc W (HP.out W (HF.out W hb).b)
 apply RK.callV rfl
 ·intro σ W hb hc ⟨hd,hu⟩;simp at hd hu;go_simp;exact ⟨rfl,rfl⟩
 ·intro W hb _;exact M.out W
 intro σ W hb _ hF;simp [JE] at hF;go_simp;clear hF;have j:=hid hb;obtain ⟨k0,k1,k2,k3⟩:=(HF.out W hb).r0.k4;clear hb
 by_cases q:Jn t.denom ch=true
 ·rw [q]
  rw [if_pos q] at HE z
  go_wp2_with fail
  refine (G.out W (HF.out W j.out).b).mono ?_;rintro e w2 ⟨D,v,rfl,hv⟩;have HV:=hid (hv.down (HF.out W j.out).b.size);have E:=hid ((HF.out W j.out).go D).b;clear D hv;go_wp2;go_ret2;exact ⟨E.out,v,by rw [HE.out];rfl,by rw [z.out];exact HV.out⟩
 ·have S:Jn t.denom ch=false:=by simpa using q
  rw [S];rw [if_neg q] at HE z;clear q k0 k1 k2 k3
  go_upto_region 3 with fail
  apply QJ (by kernel_rfl) (fun W hb=>(HF.out W (j.out.trans (hb.mono j.out.size))).r0.k4) (by kernel_rfl)
  ·intro σ;simp [Ql];exact rfl
  iterate 4 (apply RK.val rfl;· intro σ W hb hc ⟨hd,hu⟩;simp at hd hu;go_simp;exact rfl)
  apply RK.callV rfl
  ·intro σ W hb hc ⟨hd,hu⟩;simp at hd hu;go_simp;exact ⟨rfl,rfl⟩
  ·intro W hb _;exact Qh6 ch hc _ (HP.out _ (HF.out _ (j.out.trans (hb.mono j.out.size))).b)
  iterate 4 (apply RK.val rfl;· intro σ W hb hc ⟨hd,hu⟩;simp at hd hu;go_simp;exact rfl)
  apply RK.callG (PuE w.heap.size (Qas l t.sender (Zf ch) t.denom t.amount) (J9 l t.sender (Zf ch) t.denom t.amount)) (PuE.stay _ _ _) rfl
  ·intro σ W hb hc ⟨hd,hu⟩;simp at hd hu;exact ⟨_,_,by go_simp <;> first | exact rfl | exact ⟨rfl,rfl⟩,Qk2 (Below.size (HF.out W (j.out.trans (hb.mono j.out.size))).b) (L.out W (HF.out W (j.out.trans (hb.mono j.out.size))).b)⟩
  apply RK.new (PuB w.heap.size (J9 l t.sender (Zf ch) t.denom t.amount)) (PuB.stay _ _) rfl
  ·intro σ W hb hc ⟨hd,hu⟩;simp at hd hu
   obtain ⟨o,n,c,e,h⟩:=hd;have HH:=hid h;clear h;exact ⟨_,W,by go_simp <;> exact rfl,Bi _ _,o,n,c,rfl,HH.out⟩
  apply RK.val rfl
  ·intro σ W hb hc ⟨hd,hu⟩;simp at hd hu
   obtain ⟨o,n,c,e,h⟩:=hd;clear h;go_simp;exact rfl
  apply RK.new (PuB w.heap.size (J9 l t.sender (Zf ch) t.denom t.amount)) (PuB.stay _ _) rfl
  ·intro σ W hb hc ⟨hd,hu⟩;simp at hd hu
   obtain ⟨o,n,c,e,h⟩:=(show PuB w.heap.size (J9 l t.sender (Zf ch) t.denom t.amount) _ W from by first | exact hd | exact hd.1)
   have HH:=hid h;clear h
   try clear hd
   exact ⟨_,W,by go_simp <;> exact rfl,Bi _ _,o,n,c,rfl,HH.out⟩
  apply RK.val rfl
  ·intro σ W hb hc ⟨hd,hu⟩;simp at hd hu;go_simp;exact rfl
  intro σ W hb _;simp only [JE,Bv,By,Nat.reduceAdd];intro hF;obtain ⟨-,-,-,-,-,-,-,-,-,-,-,-,⟨o9,n9,c9,e9,h9⟩,C,-⟩:=hF;have I:=hid ((HF.out W (j.out.trans (hb.mono j.out.size))).b);have O:=hid h9;simp only [e9,C];clear hb h9 e9 C;go_wp2;go_ret2;exact ⟨I.out,_,by rw [HE.out];rfl,by rw [z.out];exact O.out⟩
theorem Qrj (l:List Pu) (ch:Nat) (t:Tr) (sv:Value) (N:Nat) (w:World) (hp:QL w) (hN:N≤w.heap.size) (hl:Qt PuR 3 w N sv l) (hr:QT l) (A:l.length≤60) (hn:t.amount<18446744073709551616) (hc:ch≤9223372036854775807) :
  Calls prog 134 #[sv,Bb (ch:Int),.agg #[.string t.denom,.int .u64 (t.amount:Int),.string t.sender,.string t.reader]] w fun e w'=>Bd w w'∧∃ v,e=.returned (.tuple #[v,Bb (QcB l ch t)])∧J3 w.heap.size w' v (QcT l ch t):=by
 obtain ⟨oa,ca,rfl,-⟩:=hl.shape;have HL:=hid (fun W (hb:Bd w W)=>And.intro (Bh hN hb.size) (hl.below PuR.stays (hb.mono hN)))
 have HR:=hid (And.intro hr A);have HE:=hid (show QcB l ch t=if Jn t.denom ch=true then Qbs l t.sender t.denom t.amount else Qas l (Zf ch) t.sender t.denom t.amount from rfl)
 have z:=hid (show QcT l ch t=if Jn t.denom ch=true then QaD l t.sender t.denom t.amount else J9 l (Zf ch) t.sender t.denom t.amount from rfl)
 have HP:=hid (fun W (hb:Bd w W)=>hp.below hb)
 have M:=hid (show ∀ W,Calls prog 123 #[.string t.denom,.string (ZQ ch)] W fun e w'=>e=.returned (.bool (Jn t.denom ch))∧Bd W w' from fun W=>Qeq _ _ W)
 have G:=hid (fun W (hb:Bd w W)=>QhO l t.sender t.denom t.amount _ N W (HL.out W hb).1 (HL.out W hb).2 HR.out.1 HR.out.2 hn)
 have L:=hid (fun W (hb:Bd w W)=>Qe2 l (Zf ch) t.sender t.denom t.amount _ N W (HL.out W hb).1 (HL.out W hb).2 HR.out.1 HR.out.2 hn)
 clear hp;clear hl hr A;generalize l.length=m at *
 go_in
 go_upto_region 1 with fail
 refine JQ ?_;intro w0 F0 hs;have HF:=hid (fun W (hb:Bd w0 W)=>F0.go hb)
 clear F0 hs;apply QJ (by kernel_rfl) (fun W hb=>(HF.out W hb).r0.k4) (by kernel_rfl)
 ·intro σ;simp [Ql];exact rfl
 iterate 3 (apply RK.val rfl;· intro σ W hb hc ⟨hd,hu⟩;simp at hd hu;go_simp;exact rfl)
 apply RK.callV rfl
 ·intro σ W hb hc ⟨hd,hu⟩;simp at hd hu;go_simp;exact ⟨rfl,rfl⟩
 ·intro W hb _;exact QeJ ch hc W (HP.out W (HF.out W hb).b)
 apply RK.callV rfl
 ·intro σ W hb hc ⟨hd,hu⟩;simp at hd hu;go_simp;exact ⟨rfl,rfl⟩
 ·intro W hb _;exact M.out W
 intro σ W hb _ hF;simp [JE] at hF;go_simp;clear hF;have j:=hid hb;obtain ⟨k0,k1,k2,k3⟩:=(HF.out W hb).r0.k4;clear hb
 by_cases q:Jn t.denom ch=true
 ·rw [q]
  rw [if_pos q] at HE z
  go_wp2_with fail
  refine (G.out W (HF.out W j.out).b).mono ?_;rintro e w2 ⟨D,v,rfl,hv⟩;have HV:=hid (hv.down (HF.out W j.out).b.size);have E:=hid ((HF.out W j.out).go D).b;clear D hv;go_wp2;go_ret2;exact ⟨E.out,v,by rw [HE.out];rfl,by rw [z.out];exact HV.out⟩
 ·have S:Jn t.denom ch=false:=by simpa using q
  rw [S];rw [if_neg q] at HE z;clear q k0 k1 k2 k3
  go_upto_region 3 with fail
  apply QJ (by kernel_rfl) (fun W hb=>(HF.out W (j.out.trans (hb.mono j.out.size))).r0.k4) (by kernel_rfl)
  ·intro σ;simp [Ql];exact rfl
  iterate 2 (apply RK.val rfl;· intro σ W hb hc ⟨hd,hu⟩;simp at hd hu;go_simp;exact rfl)
  apply RK.callV rfl
  ·intro σ W hb hc ⟨hd,hu⟩;simp at hd hu;go_simp;exact ⟨rfl,rfl⟩
  ·intro W hb _;exact Qh6 ch hc _ (HP.out _ (HF.out _ (j.out.trans (hb.mono j.out.size))).b)
  iterate 6 (apply RK.val rfl;· intro σ W hb hc ⟨hd,hu⟩;simp at hd hu;go_simp;exact rfl)
  apply RK.callG (PuE w.heap.size (Qas l (Zf ch) t.sender t.denom t.amount) (J9 l (Zf ch) t.sender t.denom t.amount)) (PuE.stay _ _ _) rfl
  ·intro σ W hb hc ⟨hd,hu⟩;simp at hd hu;exact ⟨_,_,by go_simp <;> first | exact rfl | exact ⟨rfl,rfl⟩,Qk2 (Below.size (HF.out W (j.out.trans (hb.mono j.out.size))).b) (L.out W (HF.out W (j.out.trans (hb.mono j.out.size))).b)⟩
  apply RK.new (PuB w.heap.size (J9 l (Zf ch) t.sender t.denom t.amount)) (PuB.stay _ _) rfl
  ·intro σ W hb hc ⟨hd,hu⟩;simp at hd hu
   obtain ⟨o,n,c,e,h⟩:=hd;have HH:=hid h;clear h;exact ⟨_,W,by go_simp <;> exact rfl,Bi _ _,o,n,c,rfl,HH.out⟩
  apply RK.val rfl
  ·intro σ W hb hc ⟨hd,hu⟩;simp at hd hu
   obtain ⟨o,n,c,e,h⟩:=hd;clear h;go_simp;exact rfl
  apply RK.new (PuB w.heap.size (J9 l (Zf ch) t.sender t.denom t.amount)) (PuB.stay _ _) rfl
  ·intro σ W hb hc ⟨hd,hu⟩;simp at hd hu
   obtain ⟨o,n,c,e,h⟩:=(show PuB w.heap.size (J9 l (Zf ch) t.sender t.denom t.amount) _ W from by first | exact hd | exact hd.1)
   have HH:=hid h;clear h
   try clear hd
   exact ⟨_,W,by go_simp <;> exact rfl,Bi _ _,o,n,c,rfl,HH.out⟩
  apply RK.val rfl
  ·intro σ W hb hc ⟨hd,hu⟩;simp at hd hu;go_simp;exact rfl
  intro σ W hb _;simp only [JE,Bv,By,Nat.reduceAdd];intro hF;obtain ⟨-,-,-,-,-,-,-,-,-,-,-,-,⟨o9,n9,c9,e9,h9⟩,C,-⟩:=hF;have I:=hid ((HF.out W (j.out.trans (hb.mono j.out.size))).b);have O:=hid h9;simp only [e9,C];clear hb h9 e9 C;go_wp2;go_ret2;exact ⟨I.out,_,by rw [HE.out];rfl,by rw [z.out];exact O.out⟩
theorem Qms {s p:ByteArray} (h:Lib.hasPrefix s.data.toList p.data.toList=true):p.size≤s.size:=by
 have:=List.IsPrefix.length_le (List.isPrefixOf_iff_prefix.1 h);rw [D3,D3] at this;exact this
theorem QiJ (s p:ByteArray) (w:World):Calls prog 163 #[.string s,.string p] w fun e w'=>e=.returned (.tuple #[.string (if Lib.hasPrefix s.data.toList p.data.toList=true then s.extract p.size s.size else s),.bool (Lib.hasPrefix s.data.toList p.data.toList)])∧Bd w w':=by
 have HI:Hid (Calls prog 202 #[.string s,.string p] w fun e w'=>e=.returned (.tuple #[.string (if Lib.hasPrefix s.data.toList p.data.toList=true then s.extract p.size s.size else s),.bool (Lib.hasPrefix s.data.toList p.data.toList)])∧w'=w):=by
  have HP:=hid (Any.stringslite_HasPrefix { laysPre99 with } s p w)
  have hz:=Qms (s:=s) (p:=p);obtain ⟨q,hq⟩:∃ q,Lib.hasPrefix s.data.toList p.data.toList=q:=⟨_,rfl⟩;rw [hq] at HP hz ⊢;clear hq;refine hid ?_
  cases q with
  | false =>
   go_in
   go_wp2_with fail
   refine HP.out.mono ?_;rintro e w1 ⟨rfl,hw⟩;obtain rfl:=hw.symm;go_wp2;go_ret2;exact ⟨rfl,rfl⟩
  | true =>
   have hz':(p.size:Int)≤(s.size:Int):=by have:=hz rfl;omega
   go_in
   go_wp2_with fail
   refine HP.out.mono ?_;rintro e w1 ⟨rfl,hw⟩;obtain rfl:=hw.symm;go_wp2;go_ret2;exact ⟨rfl,rfl⟩
 generalize (if Lib.hasPrefix s.data.toList p.data.toList=true then s.extract p.size s.size else s)=r at *
 generalize Lib.hasPrefix s.data.toList p.data.toList=q at *
 go_in
 go_wp2_with fail
 refine HI.out.mono ?_;rintro e w1 ⟨rfl,hw⟩;obtain rfl:=hw.symm;go_wp2;go_ret2;exact ⟨rfl,Bi _ _⟩
end Go.Proofs.YtnedafiokmjkkaaGreatDoor
