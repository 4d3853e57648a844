/- What Parts answers. -/
import Derived.Test.YtnedafiokmjkkaaGreatDoorsaShaAll
import Derived.Deep.CutBlock
import Derived.Deep.RegionWith
namespace Go.Proofs.YtnedafiokmjkkaaGreatDoor
open Tryz
set_option maxRecDepth 1000000
set_option maxHeartbeats 8000000
open Go.RowKit
variable {B N g i k n:Nat}
theorem Qqx (ls:List Bg) (sv:Value) (N:Nat) (w:World) (hN:N≤w.heap.size) (hb:Jz w N sv ls) (hK:Qi w) (S:ls.flatten.length<2305843009213693952) (hn:ls.length<2305843009213693952) :
  Calls prog 284 #[sv] w fun e w' =>
   ∃ v,e=.returned v∧w'.ownsRow w.heap.size 5 1 v 32 ((sha ls.flatten).map V)∧Bd w w':=by
 obtain ⟨oa,aQ,rfl,hcap⟩:=hb.shape;have hzv:=Qiy;have aO:=hid hb;have HK:=hid hK;have L:=hid S;clear hb hK S
 go_in
 go_wp2_with fail
 refine (Qjd _).mono ?_;rintro e w1 ⟨rfl,aG⟩;have aB:=hid aG;clear aG
 go_wp2_with (refine Da rfl 230 _ _ rfl w1.heap.size Qgy.toArray rfl rfl 230 QkC.toArray (BT _ _) QjC Qjr QlK ?_)
 obtain ⟨w2,I⟩:∃ w2,World.setRow (w1.alloc (.cells QkC.toArray 230)) w1.heap.size Qgy.toArray=w2:=⟨_,rfl⟩;rw [I]
 have D:Row w2 w1.heap.size 230 (QcZ [] (List.replicate 64 0)):=by
  rw [← I,Qjq];exact Ck _ _ QkC.toArray _ _ _ (BT _ _)
 have C:Bd w1 w2:=by
  rw [← I];exact ((Bi _ _).alloc (Bj _) _).trans ⟨rfl,rfl,rfl,by simp,fun k hk=>BV _ _ _ _ (by omega)⟩
 have E:=aB.out.size;have z:Bd w w2:=aB.out.trans (C.mono E);have aL:w1.heap.size≠1:=by have:=HK.out.lt;omega
 have aF:=hid D;have aA:=hid z;have aE:=hid aL;clear z D C I aL;generalize aK:ls.length=n at *;have A:=hid aK;clear aK
 go_loopw [9] (fun i wr=>∃ (k:Nat) (R':Bg),k≤n∧i=Bb k∧Abs (ls.take k).flatten R'∧Row wr w1.heap.size 230 (QcZ (ls.take k).flatten R')∧w2.grownBy wr (some w1.heap.size)) (fun i _=>n-(intOf i).toNat)
 case atStart=>exact ⟨0,_,by omega,rfl,QoF,aF.out,YT _ _⟩
 case round =>
  obtain ⟨k,R',hk,rfl,hA,m,G⟩:=hrel;have hltr:=m.lt;have hltb:=aF.out.lt;have j:Bd w wr:=aA.out.trans (Qbk G E (by omega))
  by_cases aJ:k<n
  ·have h1:Jz w N (.slice oa ls.length aQ) ls:=by rw [A.out];exact aO.out
   obtain ⟨b,aV,rfl,hc⟩:=h1.some (by rw [A.out];omega)
   obtain ⟨hbN,x,hx,aH⟩:=hc k (by rw [A.out];exact aJ)
   have hxr:wr.cell? ⟨b,aV+k,none⟩=some x:=(j.cell (by show b<w.heap.size;omega)).trans hx
   have T:=ZH ls k (by rw [A.out];exact aJ)
   have aI:=Qax ls (k+1);have q:=QmV (ls.take k).flatten (ls.getD k []) R' x N w1.heap.size wr hA m (by omega) aE.out (aH.below (j.mono hN)) (HK.out.below j HK.out.lt) (by have h2:=L.out;rw [T,Br] at aI;omega)
   rw [← T] at q;have aP:=hid q;have HG:=hid G;clear q aI T aH hx hA m G h1 hc j;have hlt':(k:Int)<(n:Int):=by omega
   go_wp2_with (go_at_call 166;refine aP.out.mono ?_;rintro e w5 ⟨rfl,aS,R5,aR,Y⟩)
   go_roundw
   case rel=>exact ⟨k+1,R5,by omega,by go_num,aR,Y,Qo HG.out aS⟩
   case measure=>simp [intOf];omega
  ·have aU:k=n:=by omega
   subst aU;have M:ls.take k=ls:=BA (by rw [A.out];omega)
   rw [M] at hA m;have O:=Qho ls.flatten R' w1.heap.size wr hA m aE.out (HK.out.below j HK.out.lt) L.out;have aD:=hid O;have aC:=hid j;clear O hA m G j M
   go_wp2_with fail
   refine aD.out.mono ?_;rintro e w6 ⟨v,rfl,aM,aT⟩;go_wp2;go_ret;have aN:=aC.out.size;exact ⟨_,rfl,Qcn aM aN,aC.out.trans (Qbk aT E aN)⟩
def QfZ (u u1 v1 v0 q r:Nat):Prop:=u=q*v1+r∧q≤4294967297∧r<4294967296∧u*4294967296+u1<(q+1)*(v1*4294967296+v0)
def Qlm (u u1 v1 v0 q:Nat):Prop:=q*(v1*4294967296+v0)≤u*4294967296+u1∧u*4294967296+u1<(q+1)*(v1*4294967296+v0)∧q<4294967296
theorem QaL (q v1 v0:Nat):q*(v1*4294967296+v0)=q*v1*4294967296+q*v0:=by rw [Nat.mul_add,← D1]
theorem Qgc (u u1 v1 v0:Nat) (h1:2147483648≤v1) (h1':v1<4294967296) (hu1:u1<4294967296) (hv0:v0<4294967296) (hu:u<v1*4294967296+v0):QfZ u u1 v1 v0 (u / v1) (u % v1):=by
 have hd:u=u / v1*v1+u % v1:=by rw [Cz];exact (Nat.div_add_mod u v1).symm
 have hr:u % v1<v1:=CQ _ (by omega)
 refine ⟨hd,?_,by omega,?_⟩
 ·refine Nat.le_of_not_lt fun hc=>?_
  have:=CK (show 4294967298≤u / v1 from hc) (Bj v1);omega
 ·rw [QaL,C0,C1]
  omega
theorem Qbq {u v1 r:Nat} (hg:QfZ u N v1 g n r) (hu1:N<4294967296) (hu:u<v1*4294967296+g) (h:4294967296≤n∨4294967296*r+N<n*g):0<n∧u*4294967296+N<n*(v1*4294967296+g):=by
 have b:u*4294967296+N<n*(v1*4294967296+g):=by
  rcases h with h | h
  ·have:=CK h (Bj (v1*4294967296+g))
   omega
  ·obtain ⟨h1,_⟩:=hg
   rw [QaL];omega
 refine ⟨?_,b⟩
 rcases Nat.eq_zero_or_pos n with h0 | h0
 ·subst h0;omega
 ·exact h0
theorem Qhu {u v1 r:Nat} (hg:QfZ u N v1 g n r) (h:n<4294967296) (h':n*g≤4294967296*r+N):Qlm u N v1 g n:=by
 obtain ⟨h1,_,_,h4⟩:=hg;refine ⟨?_,h4,h⟩;rw [QaL];omega
theorem Qhv {u v1 r:Nat} (hg:QfZ u N v1 g n r) (e:N<4294967296) (hu:u<v1*4294967296+g) (h:4294967296≤n∨4294967296*r+N<n*g) (hr:r+v1<4294967296):QfZ u N v1 g (n-1) (r+v1):=by
 obtain ⟨h0,b⟩:=Qbq hg e hu h;obtain ⟨h1,h2,h3,h4⟩:=hg;obtain ⟨k,rfl⟩:∃ k,n=k+1:=⟨n-1,by omega⟩
 rw [DC];rw [C0,C1] at h1;exact ⟨by omega,by omega,hr,b⟩
theorem Qgb {u v1 r:Nat} (hg:QfZ u N v1 g n r) (j:N<4294967296) (hv0:g<4294967296) (hu:u<v1*4294967296+g) (h:4294967296≤n∨4294967296*r+N<n*g) (hr:4294967296≤r+v1):Qlm u N v1 g (n-1):=by
 obtain ⟨h0,e⟩:=Qbq hg j hu h;obtain ⟨h1,h2,h3,h4⟩:=hg;obtain ⟨k,rfl⟩:∃ k,n=k+1:=⟨n-1,by omega⟩
 rw [DC];rw [C0,C1] at h1;have hk:=CK (show k≤4294967296 by omega) (show g≤4294967295 by omega)
 have b:k*(v1*4294967296+g)≤u*4294967296+N:=by
  rw [QaL];omega
 refine ⟨b,e,?_⟩;refine Nat.lt_of_not_le fun hc=>?_
 have:=CK hc (Bj (v1*4294967296+g));omega
theorem QjT {u v1:Nat} (h:Qlm u N v1 g n):u*4294967296+N-n*(v1*4294967296+g)<v1*4294967296+g:=by
 obtain ⟨h1,h2,_⟩:=h;rw [C0,C1] at h2;omega
theorem Qnf {u R:Nat} (h1:k*i≤u*4294967296+N) (hR:R=u*4294967296+N-k*i) (h2:B*i≤R*4294967296+g) (hl:R*4294967296+g-B*i<i) :
  R*4294967296+g-B*i=(u*18446744073709551616+N*4294967296+g) % i:=by
 have e:u*18446744073709551616+N*4294967296+g=(R*4294967296+g-B*i)+i*(k*4294967296+B):=by
  have:i*(k*4294967296+B)=k*i*4294967296+B*i:=by rw [Nat.mul_add,← D1,Cz i k,Cz i B]
  omega
 exact ((Bl (fun n=>n % i) e).trans ((Nat.add_mul_mod_self_left _ _ _).trans (Cv hl))).symm
theorem QqG {u v1:Nat} (h:Qlm u N v1 n k) (h0:Qlm (u*4294967296+N-k*(v1*4294967296+n)) g v1 n B) :
  (u*4294967296+N-k*(v1*4294967296+n))*4294967296+g-B*(v1*4294967296+n)=(u*18446744073709551616+N*4294967296+g) % (v1*4294967296+n) :=
 Qnf h.1 rfl h0.1 (QjT h0)
theorem Qn8 (hi lo y T:Nat) (hT:0<T):(hi*T*18446744073709551616+lo*T) % (y*T) / T=(hi*18446744073709551616+lo) % y:=by
 have e:hi*T*18446744073709551616+lo*T=(hi*18446744073709551616+lo)*T:=by
  rw [C0,Nat.mul_right_comm]
 rw [e,Nat.mul_mod_mul_right,Nat.mul_div_cancel _ hT]
def pP:Nat:=1152921504606849707
def qQ:Nat:=576460752303424853
theorem Qsq {a b:Nat} (h1:a % n=N % n) (h2:b % n=g % n):a*b % n=N*g % n:=by
 rw [Nat.mul_mod,h1,h2,← Nat.mul_mod]
theorem QsL {a:Nat} (h:a % n=N % n) (e:Nat):a ^ e % n=N ^ e % n:=by
 rw [Nat.pow_mod,h,← Nat.pow_mod]
def f1:Nat:=23
def f2:Nat:=62196263
theorem Qug (w:World):Calls prog 271 #[.int .u64 (1152921504606849707:Int)] w fun e w'=>e=.returned (Bb 61)∧w'=w:=by
 go_in
 go_wp2;go_ret;exact ⟨by kernel_rfl,rfl⟩
theorem Qwk (w:World):Calls prog 288 #[.int .u64 (1152921504606849707:Int)] w fun e w'=>e=.returned (Bb 3)∧w'=w:=by
 go_in
 go_wp2_with (go_at_call 271;refine (Qug _).mono ?_;rintro e w' ⟨rfl,rfl⟩)
 go_ret;exact ⟨rfl,rfl⟩
theorem Quh (w:World):Calls prog 271 #[.int .u64 (576460752303424853:Int)] w fun e w'=>e=.returned (Bb 60)∧w'=w:=by
 go_in
 go_wp2;go_ret;exact ⟨by kernel_rfl,rfl⟩
theorem Qwl (w:World):Calls prog 288 #[.int .u64 (576460752303424853:Int)] w fun e w'=>e=.returned (Bb 4)∧w'=w:=by
 go_in
 go_wp2_with (go_at_call 271;refine (Quh _).mono ?_;rintro e w' ⟨rfl,rfl⟩)
 go_ret;exact ⟨rfl,rfl⟩
theorem Qle (a b:Nat) (h:b≤a) (h':a<18446744073709551616):IntKind.u64.wrap ((a:Int)-(b:Int))=((a-b:Nat):Int):=by
 rw [← Int.ofNat_sub h];exact w64 _ (by omega)
theorem QuM (a b:Nat) (h:a<18446744073709551616):IntKind.u64.wrap ((a:Int) / (b:Int))=((a / b:Nat):Int):=by
 rw [← Int.natCast_ediv];exact w64 _ (Nat.lt_of_le_of_lt (Nat.div_le_self _ _) h)
theorem QtA (a b c:Nat) (h:c≤a*4294967296+b) (h':a*4294967296+b-c<18446744073709551616) :
  IntKind.u64.wrap (((a*4294967296 % 18446744073709551616+b) % 18446744073709551616:Nat)-((c % 18446744073709551616:Nat):Int))=((a*4294967296+b-c:Nat):Int):=by
 simp only [IntKind.wrap,IntKind.bits,IntKind.signed];simp;omega
theorem Qox (a:Nat):IntKind.u64.wrap ((a:Int)*4294967296)=((a*4294967296 % 18446744073709551616:Nat):Int):=Qcw a 4294967296
theorem Qow (a b:Nat):IntKind.u64.wrap ((a:Int)+(b:Int))=(((a+b) % 18446744073709551616:Nat):Int):=by
 rw [← Int.natCast_add];simp [IntKind.wrap,IntKind.bits,IntKind.signed]
theorem Qr0 (h:k<4294967296) (h':N<4294967296):k*N<18446744073709551616:=by
 have:=CK (show k≤4294967295 by omega) (show N≤4294967295 by omega)
 omega
theorem Z9 {m:Nat} (hm:m<4294967296) (hu1:g<4294967296) (e:N<4294967296) (hk:k<4294967296):∃ a b c:Nat,IntKind.u64.wrap ((k:Int)*(N:Int))=(a:Int)∧IntKind.u64.wrap (4294967296*(m:Int))=(b:Int)∧IntKind.u64.wrap ((b:Int)+(g:Int))=(c:Int)∧a=k*N∧c=4294967296*m+g :=
 ⟨k*N,4294967296*m,4294967296*m+g,Qaf _ _ (Qr0 hk e),Qaf 4294967296 m (by omega),Qae _ _ (by omega),rfl,rfl⟩
theorem Qgp {u v1:Nat} (h:u<18446744073709551616):∃ q x r:Nat,IntKind.u64.wrap ((u:Int) / (v1:Int))=(q:Int)∧IntKind.u64.wrap ((q:Int)*(v1:Int))=(x:Int)∧IntKind.u64.wrap ((u:Int)-(x:Int))=(r:Int)∧q=u / v1∧r=u % v1:=by
 have h1:u / v1*v1≤u:=Nat.div_mul_le_self u v1;refine ⟨u / v1,u / v1*v1,u-u / v1*v1,QuM _ _ h,Qaf _ _ (by omega),Qle _ _ h1 h,rfl,?_⟩
 have:=Nat.div_add_mod u v1;rw [Cz] at this;omega
theorem QhH {u v1:Nat} (hq:Qlm u N v1 g k) (hY:n=v1*4294967296+g) (hY':n<18446744073709551616) :
  ∃ a1 a2 a3 R:Nat,IntKind.u64.wrap ((u:Int)*4294967296)=(a1:Int)∧IntKind.u64.wrap ((a1:Int)+(N:Int))=(a2:Int)∧IntKind.u64.wrap ((k:Int)*(n:Int))=(a3:Int)∧IntKind.u64.wrap ((a2:Int)-(a3:Int))=(R:Int)∧R=u*4294967296+N-k*(v1*4294967296+g)∧R<v1*4294967296+g:=by
 subst hY;have hl:=QjT hq;exact ⟨_,_,_,u*4294967296+N-k*(v1*4294967296+g),Qox u,Qow _ N,Qcw k _,QtA _ _ _ hq.1 (by omega),rfl,hl⟩
theorem Qt8 (t:Int) (m:Nat) (mi D:Int) (hc:(t=3∧m=8∧mi=8∧D=2305843009213693952)∨(t=4∧m=16∧mi=16∧D=1152921504606846976)) (hi lo y Y v1 v0 hs ls u aB u1 u0:Nat) (w:World) (hy:0<y) (hhi:hi<y) (h0:hi≠0)
  (aM:Hid (∀ w:World,Calls prog 288 #[.int .u64 (y:Int)] w fun e w'=>e=.returned (Bb t)∧w'=w))
  (e1:IntKind.u64.wrap ((y:Int)*mi)=(Y:Int)) (e2:(Y:Int) / (4294967296:Int)=(v1:Int)) (e3:bits .and .u64 (Y:Int) (4294967295:Int)=(v0:Int))
  (e4:IntKind.u64.wrap ((hi:Int)*mi)=(hs:Int)) (e5:(lo:Int) / D=(ls:Int)) (e6:bits .or .u64 (hs:Int) (ls:Int)=(u:Int))
  (aJ:2147483648≤v1) (aC:v1<4294967296) (C:v0<4294967296) (M:u1<4294967296) (L:u0<4294967296) (hY:Y=v1*4294967296+v0) (hu:u<v1*4294967296+v0)
  (e7:IntKind.u64.wrap ((lo:Int)*mi)=(aB:Int)) (e8:(aB:Int) / (4294967296:Int)=(u1:Int)) (e9:bits .and .u64 (aB:Int) (4294967295:Int)=(u0:Int)) :
  Calls prog 285 #[.int .u64 (hi:Int),.int .u64 (lo:Int),.int .u64 (y:Int)] w fun e w' =>
   ∃ q:Int,e=.returned (.tuple #[.int .u64 q,.int .u64 (((u*18446744073709551616+u1*4294967296+u0) % (v1*4294967296+v0) / m:Nat):Int)])∧w'=w:=by
 rcases hc with ⟨rfl,aF,rfl,rfl⟩ | ⟨rfl,aF,rfl,rfl⟩
 all_goals
  have HM:=hid aF;clear aF;have d1:((y:Int) == 0)=false:=by simp;omega
  have d2:decide ((y:Int)≤(hi:Int))=false:=by simp;omega
  have d3:((hi:Int) == 0)=false:=by simp;omega
  have d4:((v1:Int) == 0)=false:=by simp;omega
  obtain ⟨q,x,r,d5,d6,d7,hq,hr⟩:=Qgp (u:=u) (v1:=v1) (by omega)
  have I:=Qgc u u1 v1 v0 aJ aC M C hu;rw [← hq,← hr] at I;have HG:=hid I;have HY:=hid hY;have Hu:=hid hu;clear I hY hu hq hr
  go_in
  go_upto_block 0 with (go_at_call 288;refine (aM.out _).mono ?_;rintro e w' ⟨rfl,rfl⟩)
  go_cut [15,16] from 67 to 85 (fun x _ wx=>∃ k:Nat,x=.int .u64 (k:Int)∧Qlm u u1 v1 v0 k∧wx=w')
  case first =>
   go_wp2_with fail
   go_loop [15,16] (fun a b=>∃ k m:Nat,a=.int .u64 (k:Int)∧b=.int .u64 (m:Int)∧QfZ u u1 v1 v0 k m) (fun a _=>(intOf a).toNat)
   case atStart=>exact ⟨_,_,rfl,rfl,HG.out⟩
   case round =>
    obtain ⟨k,m,rfl,rfl,hg⟩:=hrel;have hm:=hg.2.2.1;have O:=hg.2.1
    by_cases hA:k<4294967296∧k*v0≤4294967296*m+u1
    ·obtain ⟨hk,aA⟩:=hA
     obtain ⟨a,b,c,g1,g2,g3,ha,hc⟩:=Z9 hm M C hk;have g4:decide ((4294967296:Int)≤(k:Int))=false:=by simp;omega
     have g5:decide ((c:Int)<(a:Int))=false:=by simp;omega
     have g5':decide (c<a)=false:=by simp;omega
     have HQ:=hid (Qhu hg hk aA);clear ha hc aA hg;go_wp2
     go_meet
     exact ⟨_,rfl,HQ.out,rfl⟩
    ·have hB:4294967296≤k∨4294967296*m+u1<k*v0:=by omega
     have E:=Qbq hg M Hu.out hB;have g6:IntKind.u64.wrap ((k:Int)-1)=((k-1:Nat):Int):=Qle k 1 E.1 (by omega)
     have g7:IntKind.u64.wrap ((m:Int)+(v1:Int))=((m+v1:Nat):Int):=Qae _ _ (by omega)
     have aL:=E.1
     by_cases hr:m+v1<4294967296
     ·have hn:=Qhv hg M Hu.out hB hr
      obtain ⟨k1,j⟩:∃ k1,k-1=k1:=⟨_,rfl⟩;obtain ⟨m1,A⟩:∃ m1,m+v1=m1:=⟨_,rfl⟩;rw [j] at hn g6;rw [A] at hn g7;have g8:decide ((4294967296:Int)≤(m1:Int))=false:=by simp;omega
      have HN:=hid hn;have S:=hid j;clear hn hg j A hr E hA
      by_cases hk:k<4294967296
      ·have G:4294967296*m+u1<k*v0:=by omega
       obtain ⟨a,b,c,g1,g2,g3,ha,hc⟩:=Z9 hm M C hk;have g4:decide ((4294967296:Int)≤(k:Int))=false:=by simp;omega
       have g5:decide ((c:Int)<(a:Int))=true:=by simp;omega
       have g5':decide (c<a)=true:=by simp;omega
       clear ha hc G hB;go_wp2
       go_round
       case rel=>exact ⟨_,_,rfl,rfl,HN.out⟩
       case measure=>have:=S.out;simp [intOf];omega
      ·have g4:decide ((4294967296:Int)≤(k:Int))=true:=by simp;omega
       clear hB;go_wp2
       go_round
       case rel=>exact ⟨_,_,rfl,rfl,HN.out⟩
       case measure=>have:=S.out;simp [intOf];omega
     ·have hq:=Qgb hg M C Hu.out hB (by omega)
      obtain ⟨k1,j⟩:∃ k1,k-1=k1:=⟨_,rfl⟩;obtain ⟨m1,A⟩:∃ m1,m+v1=m1:=⟨_,rfl⟩;rw [j] at hq g6;rw [A] at g7;have g8:decide ((4294967296:Int)≤(m1:Int))=true:=by simp;omega
      have HQ:=hid hq;clear hq hg j A hr E hA
      by_cases hk:k<4294967296
      ·have G:4294967296*m+u1<k*v0:=by omega
       obtain ⟨a,b,c,g1,g2,g3,ha,hc⟩:=Z9 hm M C hk;have g4:decide ((4294967296:Int)≤(k:Int))=false:=by simp;omega
       have g5:decide ((c:Int)<(a:Int))=true:=by simp;omega
       have g5':decide (c<a)=true:=by simp;omega
       clear ha hc G hB;go_wp2
       go_meet
       exact ⟨_,rfl,HQ.out,rfl⟩
      ·have g4:decide ((4294967296:Int)≤(k:Int))=true:=by simp;omega
       clear hB;go_wp2
       go_meet
       exact ⟨_,rfl,HQ.out,rfl⟩
  case rest =>
   obtain ⟨k,rfl,hk,rfl⟩:=hcut;clear d5 d6 d7 HG;obtain ⟨a1,a2,a3,R,f1,f2,f3,f4,hR,aE⟩:=QhH hk HY.out (by have:=HY.out;omega)
   obtain ⟨q2,x2,r2,d5,d6,d7,aH,aI⟩:=Qgp (u:=R) (v1:=v1) (by omega)
   have I:=Qgc R u0 v1 v0 aJ aC L C aE;rw [← aH,← aI] at I;have HG:=hid I;have HR:=hid aE;have aK:=hid hR;have HK:=hid hk;clear I hR aE hk aH aI Hu
   go_upto_block 2 with fail
   go_cut [18,16] from 102 to 120 (fun x _ wx=>∃ k:Nat,x=.int .u64 (k:Int)∧Qlm R u0 v1 v0 k∧wx=wc)
   case first =>
    go_wp2_with fail
    go_loop [18,16] (fun a b=>∃ k m:Nat,a=.int .u64 (k:Int)∧b=.int .u64 (m:Int)∧QfZ R u0 v1 v0 k m) (fun a _=>(intOf a).toNat)
    case atStart=>exact ⟨_,_,rfl,rfl,HG.out⟩
    case round =>
     obtain ⟨k,m,rfl,rfl,hg⟩:=hrel;have hm:=hg.2.2.1;have O:=hg.2.1
     by_cases hA:k<4294967296∧k*v0≤4294967296*m+u0
     ·obtain ⟨hk,aA⟩:=hA
      obtain ⟨a,b,c,g1,g2,g3,ha,hc⟩:=Z9 hm L C hk;have g4:decide ((4294967296:Int)≤(k:Int))=false:=by simp;omega
      have g5:decide ((c:Int)<(a:Int))=false:=by simp;omega
      have g5':decide (c<a)=false:=by simp;omega
      have HQ:=hid (Qhu hg hk aA);clear ha hc aA hg;go_wp2
      go_meet
      exact ⟨_,rfl,HQ.out,rfl⟩
     ·have hB:4294967296≤k∨4294967296*m+u0<k*v0:=by omega
      have E:=Qbq hg L HR.out hB;have g6:IntKind.u64.wrap ((k:Int)-1)=((k-1:Nat):Int):=Qle k 1 E.1 (by omega)
      have g7:IntKind.u64.wrap ((m:Int)+(v1:Int))=((m+v1:Nat):Int):=Qae _ _ (by omega)
      have aL:=E.1
      by_cases hr:m+v1<4294967296
      ·have hn:=Qhv hg L HR.out hB hr
       obtain ⟨k1,j⟩:∃ k1,k-1=k1:=⟨_,rfl⟩;obtain ⟨m1,A⟩:∃ m1,m+v1=m1:=⟨_,rfl⟩;rw [j] at hn g6;rw [A] at hn g7;have g8:decide ((4294967296:Int)≤(m1:Int))=false:=by simp;omega
       have HN:=hid hn;have S:=hid j;clear hn hg j A hr E hA
       by_cases hk:k<4294967296
       ·have G:4294967296*m+u0<k*v0:=by omega
        obtain ⟨a,b,c,g1,g2,g3,ha,hc⟩:=Z9 hm L C hk;have g4:decide ((4294967296:Int)≤(k:Int))=false:=by simp;omega
        have g5:decide ((c:Int)<(a:Int))=true:=by simp;omega
        have g5':decide (c<a)=true:=by simp;omega
        clear ha hc G hB;go_wp2
        go_round
        case rel=>exact ⟨_,_,rfl,rfl,HN.out⟩
        case measure=>have:=S.out;simp [intOf];omega
       ·have g4:decide ((4294967296:Int)≤(k:Int))=true:=by simp;omega
        clear hB;go_wp2
        go_round
        case rel=>exact ⟨_,_,rfl,rfl,HN.out⟩
        case measure=>have:=S.out;simp [intOf];omega
      ·have hq:=Qgb hg L C HR.out hB (by omega)
       obtain ⟨k1,j⟩:∃ k1,k-1=k1:=⟨_,rfl⟩;obtain ⟨m1,A⟩:∃ m1,m+v1=m1:=⟨_,rfl⟩;rw [j] at hq g6;rw [A] at g7;have g8:decide ((4294967296:Int)≤(m1:Int))=true:=by simp;omega
       have HQ:=hid hq;clear hq hg j A hr E hA
       by_cases hk:k<4294967296
       ·have G:4294967296*m+u0<k*v0:=by omega
        obtain ⟨a,b,c,g1,g2,g3,ha,hc⟩:=Z9 hm L C hk;have g4:decide ((4294967296:Int)≤(k:Int))=false:=by simp;omega
        have g5:decide ((c:Int)<(a:Int))=true:=by simp;omega
        have g5':decide (c<a)=true:=by simp;omega
        clear ha hc G hB;go_wp2
        go_meet
        exact ⟨_,rfl,HQ.out,rfl⟩
       ·have g4:decide ((4294967296:Int)≤(k:Int))=true:=by simp;omega
        clear hB;go_wp2
        go_meet
        exact ⟨_,rfl,HQ.out,rfl⟩
   case rest =>
    obtain ⟨k2,rfl,O,rfl⟩:=hcut;clear f1 f2 f3 f4 d5 d6 d7 HG;obtain ⟨a1,a2,a3,R2,f1,f2,f3,f4,aD,aG⟩:=QhH O HY.out (by have:=HY.out;omega)
    have T:R2 / m=(u*18446744073709551616+u1*4294967296+u0) % (v1*4294967296+v0) / m:=by
     have h3:=HK.out;have h4:=aK.out;rw [h4] at O aD;rw [aD,QqG h3 O]
    obtain ⟨z,hz⟩:∃ z,R2 / m=z:=⟨_,rfl⟩;rw [hz] at T;rw [HM.out] at hz;have g1:(R2:Int) / 8=((R2 / 8:Nat):Int):=by omega
    have g2:(R2:Int) / 16=((R2 / 16:Nat):Int):=by omega
    simp only [hz] at g1 g2;have HF:=hid T;clear T hz aD aG O;go_wp2;go_ret2;exact ⟨_,by rw [← HF.out];rfl,rfl⟩
theorem QrM (y lo:Nat) (w:World) (hy:0<y) :
  Calls prog 285 #[.int .u64 0,.int .u64 (lo:Int),.int .u64 (y:Int)] w fun e w' =>
   ∃ q:Int,e=.returned (.tuple #[.int .u64 q,.int .u64 ((lo % y:Nat):Int)])∧∃ n,w'=w.drewN n:=by
 have d1:((y:Int) == 0)=false:=by simp;omega
 have d2:decide ((y:Int)≤0)=false:=by simp;omega
 have e1:(lo:Int).tmod y=((lo % y:Nat):Int):=by rw [Int.tmod_eq_emod_of_nonneg (Int.natCast_nonneg _)];rfl
 go_in
 go_wp2_with fail
 refine Yy (by kernel_rfl) (by kernel_rfl) ?_
 repeat still_step
 refine Cm ?_;go_wp2;go_ret2;exact ⟨_,rfl,1,rfl⟩
def PQ (y:Nat):Prop:=y=1152921504606849707∨y=576460752303424853
theorem QvS (y hi lo:Nat) (w:World) (h:PQ y) (j:hi<y) (h0:hi≠0) (hlo:lo<18446744073709551616) :
  Calls prog 285 #[.int .u64 (hi:Int),.int .u64 (lo:Int),.int .u64 (y:Int)] w fun e w' =>
   ∃ q:Int,e=.returned (.tuple #[.int .u64 q,.int .u64 (((hi*18446744073709551616+lo) % y:Nat):Int)])∧w'=w:=by
 have h5:∀ n:Nat,(n:Int) / (4294967296:Int)=((n / 4294967296:Nat):Int):=fun n=>by omega
 obtain ⟨t,k,m,D,c,ht,hm,hD,hy,z⟩:∃ (t:Int) (k m D c:Nat),((t=3∧m=8∧(m:Int)=8∧(D:Int)=2305843009213693952)∨(t=4∧m=16∧(m:Int)=16∧(D:Int)=1152921504606846976))∧m=2 ^ k∧m*D=18446744073709551616∧(y*m=2147483648*4294967296+c∧c<4294967296)∧∀ w:World,Calls prog 288 #[.int .u64 (y:Int)] w fun e w'=>e=.returned (Bb t)∧w'=w:=by
  rcases h with rfl | rfl
  ·exact ⟨3,3,8,2305843009213693952,21848,.inl ⟨rfl,rfl,rfl,rfl⟩,rfl,rfl,by decide,Qwk⟩
  ·exact ⟨4,4,16,1152921504606846976,21840,.inr ⟨rfl,rfl,rfl,rfl⟩,rfl,rfl,by decide,Qwl⟩
 have hx:hi*m<18446744073709551616∧lo / D<m∧hi*m+lo / D<2147483648*4294967296+c∧lo / D*18446744073709551616+lo*m % 18446744073709551616=lo*m:=by
  rcases ht with ⟨-,rfl,-,e⟩ | ⟨-,rfl,-,e⟩
  ·obtain rfl:D=2305843009213693952:=by omega
   rcases h with rfl | rfl <;> omega
  ·obtain rfl:D=1152921504606846976:=by omega
   rcases h with rfl | rfl <;> omega
 have A:bits .or .u64 ((hi*m:Nat):Int) ((lo / D:Nat):Int)=((hi*m+lo / D:Nat):Int):=by
  rw [u64_or_nat _ _ (by omega) (by omega)]
  have:=Ec (i:=k) (show lo / D<2 ^ k by omega) hi
  rw [← hm,Cz m hi] at this;rw [this]
 have b:lo*m % 18446744073709551616<18446744073709551616:=CQ _ (by omega)
 refine (Qt8 t m m D ht hi lo y (y*m) 2147483648 c (hi*m) (lo / D) (hi*m+lo / D) (lo*m % 18446744073709551616) _ _ w (by omega) j h0 (hid z)
  (Qaf y m (by omega)) (by omega) (by rw [hy.1,Qfp _ (by omega)];omega) (Qaf hi m (by omega)) rfl A (by omega) (by omega) (by omega) (by omega) (by omega) hy.1 (by omega) (Qcw lo m) (h5 _) (Qfp _ b)).mono ?_
 rintro e w' ⟨q,rfl,rfl⟩;refine ⟨q,?_,rfl⟩;have hr:=Qn8 hi lo y m (by omega)
 have e1:(hi*m+lo / D)*18446744073709551616+lo*m % 18446744073709551616 / 4294967296*4294967296+lo*m % 18446744073709551616 % 4294967296=hi*m*18446744073709551616+lo*m:=by omega
 rw [e1,← hy.1,hr]
theorem Quv (y hi lo:Nat) (w:World) (h:PQ y) (hhi:hi<18446744073709551616) (j:lo<18446744073709551616) :
  Calls prog 279 #[.int .u64 (hi:Int),.int .u64 (lo:Int),.int .u64 (y:Int)] w fun e w' =>
   e=.returned (.int .u64 (((hi*18446744073709551616+lo) % y:Nat):Int))∧∃ n,w'=w.drewN n:=by
 have hy:0<y∧y<18446744073709551616:=by rcases h with rfl | rfl <;> decide
 have d1:((y:Int) == 0)=false:=by simp;omega
 have hr:(hi % y*18446744073709551616+lo) % y=(hi*18446744073709551616+lo) % y:=by
  rw [Nat.add_mod,Nat.mul_mod,Nat.mod_mod,← Nat.mul_mod,← Nat.add_mod]
 have b:hi % y<y:=CQ _ hy.1;have e2:(hi:Int) % y=((hi % y:Nat):Int):=rfl;generalize hi % y=h' at hr b e2;have e1:IntKind.u64.wrap ((hi:Int) % y)=(h':Int):=by rw [e2];exact w64 _ (by omega)
 have HR:=hid hr;clear hr
 by_cases h0:h'=0
 ·subst h0
  have HD:=hid (fun w=>QrM y lo w hy.1)
  go_in
  go_wp2_with (go_at_call 285;refine (HD.out _).mono ?_;rintro e w' ⟨q,rfl,n,rfl⟩)
  go_ret;exact ⟨by rw [← HR.out,CR,Bq];rfl,n,rfl⟩
 ·have HD:=hid (fun w=>QvS y h' lo w h b h0 j)
  go_in
  go_wp2_with (go_at_call 285;refine (HD.out _).mono ?_;rintro e w' ⟨q,rfl,rfl⟩)
  go_ret;exact ⟨by rw [← HR.out];rfl,0,rfl⟩
def Qml (a b:Nat):Nat:=a*b % pP
def QgA (b e:Nat):Nat:=b ^ e % pP
theorem QkR (a b:Nat):Qml a b<1152921504606849707:=CQ _ (by decide)
theorem Qus (a b:Nat):QgA a b<1152921504606849707:=CQ _ (by decide)
theorem QuD (y a b:Nat) (w:World) (h:PQ y) (ha:a<18446744073709551616) (hb:b<18446744073709551616) :
  Calls prog 264 #[.int .u64 (a:Int),.int .u64 (b:Int),.int .u64 (y:Int)] w fun e w' =>
   e=.returned (.int .u64 ((a*b % y:Nat):Int))∧∃ n,w'=w.drewN n:=by
 have hm:(a*b / 18446744073709551616*18446744073709551616+a*b % 18446744073709551616) % y=a*b % y:=by rw [Nat.div_add_mod']
 have HM:=hid (fun w=>Qqq a b ha hb w)
 have HR:=hid (fun w=>Quv y _ _ w h (Nat.div_lt_of_lt_mul (Nat.mul_lt_mul'' ha hb)) (CQ (a*b) (by decide)))
 rw [hm] at HR;generalize a*b / 18446744073709551616=x,a*b % 18446744073709551616=z,a*b % y=q at *;clear hm
 go_in
 go_wp2_with (first | (go_at_call 278;refine (HM.out _).mono ?_;rintro e w' ⟨rfl,rfl⟩) | (go_at_call 279;refine (HR.out _).mono ?_;rintro e w' ⟨rfl,n,rfl⟩))
 go_ret;exact ⟨rfl,n,rfl⟩
theorem Qk8 (a b:Nat) (w:World) (ha:a<18446744073709551616) (hb:b<18446744073709551616) :
  Calls prog 264 #[.int .u64 (a:Int),.int .u64 (b:Int),.int .u64 (1152921504606849707:Int)] w fun e w' =>
   e=.returned (.int .u64 (Qml a b:Int))∧∃ n,w'=w.drewN n:=QuD 1152921504606849707 a b w (.inl rfl) ha hb
def QgO (b e o x k:Nat):Prop:=o<1152921504606849707∧x<18446744073709551616∧k<18446744073709551616∧o*x ^ k % pP=QgA b e
theorem Qmq {b e:Nat} (hb:b<18446744073709551616) (he:e<18446744073709551616):QgO b e 1 b e:=⟨by omega,hb,he,by rw [C1];rfl⟩
theorem Qqz {b e o x:Nat} (h:QgO b e o x k) (hk:k % 2=1):QgO b e (Qml o x) (Qml x x) (k / 2):=by
 obtain ⟨h1,h2,h3,h4⟩:=h;refine ⟨QkR _ _,by have:=QkR x x;omega,by omega,?_⟩
 rw [← h4]
 have e1:x ^ k=x*(x*x) ^ (k / 2):=by
  rw [← Nat.pow_two,← Nat.pow_mul,← Nat.pow_succ',show (2*(k / 2)).succ=k by omega]
 rw [e1,← D1];exact Qsq (Nat.mod_mod _ _) (QsL (Nat.mod_mod _ _) _)
theorem QnX {b e o x:Nat} (h:QgO b e o x k) (hk:k % 2=0):QgO b e o (Qml x x) (k / 2):=by
 obtain ⟨h1,h2,h3,h4⟩:=h;refine ⟨h1,by have:=QkR x x;omega,by omega,?_⟩
 rw [← h4]
 have e1:x ^ k=(x*x) ^ (k / 2):=by
  rw [← Nat.pow_two,← Nat.pow_mul,show 2*(k / 2)=k by omega]
 rw [e1];exact Qsq rfl (QsL (Nat.mod_mod _ _) _)
theorem Qqy {b e o x:Nat} (h:QgO b e o x 0):o=QgA b e:=by
 obtain ⟨h1,_,_,h4⟩:=h;rw [← h4,Nat.pow_zero,Dm];exact (Cv h1).symm
theorem Qk1 (b e:Nat) (w:World) (hb:b<18446744073709551616) (he:e<18446744073709551616) :
  Calls prog 262 #[.int .u64 (b:Int),.int .u64 (e:Int),.int .u64 (1152921504606849707:Int)] w fun e' w' =>
   e'=.returned (.int .u64 (QgA b e:Int))∧∃ n,w'=w.drewN n:=by
 have j:=hid (Qmq hb he);clear hb he
 go_in
 go_wp2_with fail
 go_loopw [0,1,7] (fun x k o wr=>∃ x' k' o':Nat,x=.int .u64 (x':Int)∧k=.int .u64 (k':Int)∧o=.int .u64 (o':Int)∧QgO b e o' x' k'∧∃ n,wr=w.drewN n) (fun _ k _ _=>(intOf k).toNat)
 case atStart=>exact ⟨_,_,_,rfl,rfl,rfl,j.out,0,rfl⟩
 case round =>
  obtain ⟨x,k,o,rfl,rfl,rfl,hp,n,rfl⟩:=hrel
  by_cases hk:k=0
  ·subst hk
   have ho:=Qqy hp;have HO:=hid ho;clear hp ho j;go_wp2;go_ret;rw [← HO.out];exact ⟨rfl,n,rfl⟩
  ·have g1:decide ((0:Int)<(k:Int))=true:=by simp;omega
   have g1':decide (0<k)=true:=by simp;omega
   have g2:(k:Int) / 2=((k / 2:Nat):Int):=by omega
   have g3:bits .and .u64 (k:Int) 1=((k % 2:Nat):Int):=by
    rw [show (1:Int)=((1:Nat):Int) from rfl,u64_and_nat _ _ hp.2.2.1 (by omega),nat_mask1]
   have z:k / 2<k:=by omega
   obtain ⟨k2,m⟩:∃ k2,k / 2=k2:=⟨_,rfl⟩;have ho:=hp.1;have hx:=hp.2.1;have q:=hid (fun w=>Qk8 x x w hx hx)
   have A:=hid (fun w=>Qk8 o x w (by omega) hx)
   rcases (show k % 2=1∨k % 2=0 by omega) with hpar | hpar
   ·have hn:=Qqz hp hpar
    rw [hpar] at g3;rw [m] at g2 z hn;have g3':bits .and .u64 (k:Int) 1=1:=g3;have HN:=hid hn;clear hn hp m hpar j ho hx g3
    go_wp2_with fail
    refine (A.out _).mono ?_;rintro e1 w1 ⟨rfl,n1,rfl⟩
    go_wp2_with fail
    refine (q.out _).mono ?_;rintro e2 w2 ⟨rfl,n2,rfl⟩;go_wp2;go_roundw
    case rel=>exact ⟨_,_,_,rfl,rfl,rfl,HN.out,n+n1+n2,rfl⟩
    case measure=>simp [intOf];omega
   ·have hn:=QnX hp hpar
    rw [hpar] at g3;rw [m] at g2 z hn;have g3':bits .and .u64 (k:Int) 1=0:=g3;have HN:=hid hn;clear hn hp m hpar j ho hx g3
    go_wp2_with fail
    refine (q.out _).mono ?_;rintro e2 w2 ⟨rfl,n2,rfl⟩;go_wp2;go_roundw
    case rel=>exact ⟨_,_,_,rfl,rfl,rfl,HN.out,n+n2,rfl⟩
    case measure=>simp [intOf];omega
def QfP (l:Bg):Nat:=l.foldl (fun n b=>n*256+b.toNat) 0
theorem QjM (l:Bg) (b:BitVec 8):QfP (l ++ [b])=QfP l*256+b.toNat:=by simp [QfP]
theorem Qo1: ∀ n (l:Bg),l.length=n→QfP l<256 ^ n:=by
 intro n
 induction n with
 | zero=>intro l h;rw [CD.1 h];decide
 | succ n ih =>
  intro l h;obtain ⟨r,b,rfl⟩:∃ r b,l=r ++ [b]:=⟨l.dropLast,l.getLast (by intro h0;rw [h0] at h;simp at h),(List.dropLast_concat_getLast _).symm⟩
  rw [QjM,DG];have h1:=ih r (by simpa using h)
  have:=b.isLt;omega
def QqS (l:Bg):Nat:=QfP ((sha l).take 8)
theorem QuA (l:Bg):QqS l<18446744073709551616:=by
 exact Qo1 8 _ (by rw [C2,QR];rfl)
theorem Qjt (n:Nat) (w:World) (hn:n<18446744073709551616) :
  Calls prog 277 #[.int .u64 (n:Int)] w fun e w' =>
   e=.returned (.slice (some ⟨w.heap.size,0,none⟩) 8 8)∧w'=w.alloc (.cells ((be8 n).map V).toArray 5):=by
 go_in
 go_wp2;go_ret;refine ⟨rfl,Bl (fun a=>w.alloc (.cells a 5)) ?_⟩
 simp [be8,V,b8];omega
theorem Qup (n:Nat) (b:BitVec 8) (hn:n<72057594037927936):bits .or .u64 (IntKind.u64.wrap ((n:Int)*256)) (b8 b)=((n*256+b.toNat:Nat):Int):=by
 have hb:=b.isLt;have h1:IntKind.u64.wrap ((n:Int)*256)=((n*256:Nat):Int):=Qaf n 256 (by omega)
 have h2:b8 b=((b.toNat:Nat):Int):=rfl;rw [h1,h2,u64_or_nat _ _ (by omega) (by omega)]
 have:=Ec (i:=8) (show b.toNat<2 ^ 8 by omega) n
 rw [show (2:Nat) ^ 8=256 from rfl,Cz 256 n] at this;rw [this]
theorem QnU (ls:List Bg) (sv:Value) (N:Nat) (w:World) (hN:N≤w.heap.size) (hb:Jz w N sv ls) (hK:Qi w) (m:ls.flatten.length<2305843009213693952) (hn:ls.length<2305843009213693952) :
  Calls prog 276 #[sv] w fun e w'=>e=.returned (.int .u64 (QqS ls.flatten:Int))∧Bd w w':=by
 have HP:=hid (Qqx ls sv N w hN hb hK m hn);clear hb hK m hn
 go_in
 go_wp2_with fail
 refine HP.out.mono ?_;rintro e w1 ⟨v,rfl,q,z⟩;obtain ⟨ov,G,rfl,hcap,O⟩:=QdY q;obtain ⟨gv,rfl,_,_,j⟩:=O (by omega)
 have hc:∀ k,k<8→w1.cell? ⟨gv,k,none⟩=some (.int .u8 (b8 ((sha ls.flatten).getD k 0))):=by
  intro k hk;rw [(j k (by omega)).1,Bs,getD_some _ k 0 (by rw [QR];omega)]
  rfl
 have hcap8:(8:Int)≤(G:Int):=by omega
 have HC:=hid hc;have S:=hid z;have E:=QR ls.flatten;obtain ⟨l,hl⟩:∃ l,sha ls.flatten=l:=⟨_,rfl⟩;have Y:=hid (show QqS ls.flatten=QfP (l.take 8) by rw [← hl];rfl)
 rw [hl] at E HC;have HL:=hid E;clear O j hc z q HP E hl
 go_wp2_with fail
 go_loop [3,10] (fun n i=>∃ k:Nat,k≤8∧i=Bb k∧n=.int .u64 (QfP (l.take k):Int)) (fun _ i=>8-(intOf i).toNat)
 case atStart=>exact ⟨0,by omega,rfl,rfl⟩
 case round =>
  obtain ⟨k,hk,rfl,rfl⟩:=hrel
  by_cases aC:k<8
  ·have aA:=HC.out k aC
   have hlt':(k:Int)<8:=by omega
   have I:k<l.length:=by rw [HL.out];omega
   have L:QfP (l.take (k+1))=QfP (l.take k)*256+(l.getD k 0).toNat:=by
    rw [Cx I,QjM];simp [I]
   have M:QfP (l.take k)<72057594037927936:=by
    have h1:=Qo1 k (l.take k) (by rw [C2];omega)
    have h2:=Nat.pow_le_pow_right (show 0<256 by omega) (show k≤7 by omega)
    omega
   have D:=Qup (QfP (l.take k)) (l.getD k 0) M;rw [← L] at D;obtain ⟨b,hb⟩:∃ b,l.getD k 0=b:=⟨_,rfl⟩;obtain ⟨n0,A⟩:∃ n0,QfP (l.take k)=n0:=⟨_,rfl⟩;obtain ⟨n1,C⟩:∃ n1,QfP (l.take (k+1))=n1:=⟨_,rfl⟩;rw [hb] at aA D;rw [A,C] at D;rw [A];have T:=hid C
   have hw8:IntKind.u64.wrap (b8 b)=b8 b:=by
    have h1:b8 b=((b.toNat:Nat):Int):=rfl;have:=b.isLt;rw [h1];exact w64 _ (by omega)
   have hb0:=QuT b;have z:=QuS b;clear A C hb L M HC;go_wp2
   go_round
   case rel=>exact ⟨k+1,by omega,by go_num,by rw [T.out]⟩
   case measure=>simp [intOf];omega
  ·have aB:k=8:=by omega
   subst aB;go_wp2;go_ret;rw [Y.out];exact ⟨rfl,S.out⟩
def Qpv (r k:Nat) (m:Bg):Nat:=QqS (be8 r ++ (be8 k ++ m)) % qQ
theorem QtS (r k:Nat) (m:Bg):Qpv r k m<576460752303424853:=CQ _ (by decide)
theorem Qd9 (n:Nat):(be8 n).length=8:=rfl
theorem QiF (r k:Nat) (m:Bg) (sv:Value) (N:Nat) (w:World) (hr:r<18446744073709551616) (hk:k<18446744073709551616) (hN:N≤w.heap.size) (hb:Bytes w N sv m) (hK:Qi w) (hlen:m.length≤140737488351232) :
  Calls prog 263 #[.int .u64 (r:Int),.int .u64 (k:Int),sv] w fun e w'=>e=.returned (.int .u64 (Qpv r k m:Int))∧Bd w w':=by
 obtain ⟨oa,T,rfl,_⟩:=hb.shape;have hz:=QuA (be8 r ++ (be8 k ++ m));have G:Qpv r k m=QqS (be8 r ++ (be8 k ++ m)) % 576460752303424853:=rfl;obtain ⟨w1,C⟩:∃ w1,w.alloc (.cells ((be8 r).map V).toArray 5)=w1:=⟨_,rfl⟩;have A:w1.heap.size=w.heap.size+1:=by rw [← C];simp
 have Y:=bof C;have aC:Bytes w1 w1.heap.size (.slice (some ⟨w.heap.size,0,none⟩) 8 8) (be8 r):=by rw [A,← C];exact ZY w (be8 r) 5 (0,0) 8 (by simp [Qd9])
 obtain ⟨w2,D⟩:∃ w2,w1.alloc (.cells ((be8 k).map V).toArray 5)=w2:=⟨_,rfl⟩;have aD:w2.heap.size=w.heap.size+2:=by rw [← D];simp;omega
 have I:=bof D;have aA:Bytes w2 w2.heap.size (.slice (some ⟨w1.heap.size,0,none⟩) 8 8) (be8 k):=by rw [show w2.heap.size=w1.heap.size+1 by omega,← D];exact ZY w1 (be8 k) 5 (0,0) 8 (by simp [Qd9])
 have hr8':Bytes w2 w2.heap.size (.slice (some ⟨w.heap.size,0,none⟩) 8 8) (be8 r):=(aC.below I).mono (by omega)
 have b:Bd w w2:=Y.trans (I.mono (by omega))
 have hs:Bytes w2 w2.heap.size (.slice oa m.length T) m:=(hb.below (b.mono hN)).mono (by omega)
 have aB:=QnQ (t:=29) hr8' aA hs;have E:Bd w2 (w2.alloc (.cells #[.slice (some ⟨w.heap.size,0,none⟩) 8 8,.slice (some ⟨w1.heap.size,0,none⟩) 8 8,.slice oa m.length T] 29)):=(Bi _ _).alloc (Bj _) _;have j:=QnU [be8 r,be8 k,m] _ _ _ (by simp) aB (hK.below (b.trans (E.mono (by omega))) hK.lt) (by rw [QoT];simp [Qd9];omega) (by simp)
 rw [QoT,A,aD] at j;obtain ⟨z,aE⟩:∃ z,QqS (be8 r ++ (be8 k ++ m))=z:=⟨_,rfl⟩;rw [aE] at j hz G;obtain ⟨q,hq⟩:∃ q,z % 576460752303424853=q:=⟨_,rfl⟩;have e1:(z:Int) % 576460752303424853=(q:Int):=by omega
 rw [hq] at G;have M:=hid (Qjt r w hr);have O:=hid (Qjt k w1 hk);rw [C] at M;rw [D,A] at O;have S:=hid j;have aG:=hid G;have L:=hid b;rw [A] at E;have aF:=hid E;clear j G b E Y I aC aA hr8' hs aB hb hK aE hq C D
 go_in
 go_wp2_with fail
 refine M.out.mono ?_;rintro e w3 ⟨rfl,rfl⟩
 go_wp2_with fail
 refine O.out.mono ?_;rintro e w4 ⟨rfl,rfl⟩
 go_wp2_with fail
 refine S.out.mono ?_;rintro e w5 ⟨rfl,aH⟩;go_wp2;go_ret;rw [aG.out,← e1];have h3:=aF.out.mono (show w.heap.size≤_ by omega)
 have h5:=aH.mono (show w.heap.size≤_ by simp;omega)
 exact ⟨rfl,L.out.trans (h3.trans h5)⟩
theorem Qak (w:World) (n N:Nat):Below N w (w.drewN n):=⟨rfl,rfl,rfl,Bj _,fun _ _=>rfl⟩
def Qut (k:Nat):Nat:=QgA k qQ
theorem Qmr (k:Nat) (w:World) (hk:k<18446744073709551616) :
  Calls prog 262 #[.int .u64 (k:Int),.int .u64 (576460752303424853:Int),.int .u64 (1152921504606849707:Int)] w fun e w'=>e=.returned (.int .u64 (Qut k:Int))∧∃ n,w'=w.drewN n:=by
 have h:=Qk1 k qQ w hk (by decide)
 rw [show ((qQ:Nat):Int)=(576460752303424853:Int) from by decide] at h
 exact h
theorem QnY (e:Nat) (w:World) (he:e<18446744073709551616) :
  Calls prog 262 #[.int .u64 (4:Int),.int .u64 (e:Int),.int .u64 (1152921504606849707:Int)] w fun e' w'=>e'=.returned (.int .u64 (QgA 4 e:Int))∧∃ n,w'=w.drewN n :=
 Qk1 4 e w (by omega) he
def QdU (key:Nat) (m:Bg) (r s:Nat):Prop :=
 (1≤key∧key<1152921504606849707)∧(1≤r∧r<1152921504606849707)∧s<576460752303424853∧Qut key=1∧QgA 4 s=Qml r (QgA key (Qpv r key m))
theorem Qao (x:Nat) (w:World) (h:1≤x∧x<1152921504606849707):Calls prog 261 #[.int .u64 (x:Int)] w fun e w'=>e=.returned (.bool true)∧w'=w:=by
 have h1:decide ((1:Int)≤(x:Int))=true:=by simp;omega
 have h2:decide ((x:Int)<(1152921504606849707:Int))=true:=by simp;omega
 go_in
 go_wp2;go_ret;exact ⟨rfl,rfl⟩
theorem Qhw (x:Nat) (w:World) (h:¬ (1≤x∧x<1152921504606849707)):Calls prog 261 #[.int .u64 (x:Int)] w fun e w'=>e=.returned (.bool false)∧w'=w:=by
 by_cases h1:1≤x
 ·have d1:decide ((1:Int)≤(x:Int))=true:=by simp;omega
  have d2:decide ((x:Int)<(1152921504606849707:Int))=false:=by simp;omega
  clear h
  go_in
  go_wp2;go_ret;exact ⟨rfl,rfl⟩
 ·have d1:decide ((1:Int)≤(x:Int))=false:=by simp;omega
  clear h
  go_in
  go_wp2;go_ret;exact ⟨rfl,rfl⟩
theorem QrX (key:Nat) (m:Bg) (r s:Nat) (mv:Value) (N:Nat) (w:World) (hk:key<18446744073709551616) (hr:r<18446744073709551616) (hs:s<18446744073709551616) (hN:N≤w.heap.size) (hm:Bytes w N mv m) (hK:Qi w) (aE:m.length≤140737488351232) :
  Calls prog 241 #[.int .u64 (key:Int),mv,.agg #[.int .u64 (r:Int),.int .u64 (s:Int)]] w fun e w'=>∃ b:Bool,e=.returned (.bool b)∧(b=true↔QdU key m r s)∧Bd w w':=by
 by_cases h1:1≤key∧key<1152921504606849707
 ·by_cases h2:1≤r∧r<1152921504606849707
  ·by_cases h3:s<576460752303424853
   ·have D:=hid (fun w=>Qao key w h1)
    have G:=hid (fun w=>Qao r w h2)
    have d3:decide ((576460752303424853:Int)≤(s:Int))=false:=by simp;omega
    have O:=hid (fun w=>Qmr key w hk)
    obtain ⟨z,hz⟩:∃ z,Qut key=z:=⟨_,rfl⟩;rw [hz] at O;have HZ:=hid hz;obtain ⟨w1,A⟩:∃ w1,w.alloc (.cells #[.int .u64 (r:Int),.int .u64 (s:Int)] 270)=w1:=⟨_,rfl⟩;have hsz1:w1.heap.size=w.heap.size+1:=by rw [← A];simp
    have q:=bof A;have j:Row w1 w.heap.size 270 [.int .u64 (r:Int),.int .u64 (s:Int)]:=by rw [← A];exact Row.new _ _ _
    have c0:w1.cell? ⟨w.heap.size,0,none⟩=some (.int .u64 (r:Int)):=j.cell 0;have c1:w1.cell? ⟨w.heap.size,1,none⟩=some (.int .u64 (s:Int)):=j.cell 1;have aB:=hid j;have C:=hid q;have S:=hid (hm.below (q.mono hN));have M:=hid (hK.below q hK.lt);have HH:=hid (show (1≤key∧key<1152921504606849707)∧(1≤r∧r<1152921504606849707)∧s<576460752303424853 from ⟨h1,h2,h3⟩);clear hz j q hm hK h1 h2 h3
    by_cases h4:z=1
    ·subst h4
     have HC:=hid (fun n=>QiF r key m mv N (w1.drewN n) hr hk (by show N≤w1.heap.size;omega) (S.out.below (Qak _ _ _)) (M.out.below (Qak _ _ _) M.out.lt) aE)
     obtain ⟨c,hc⟩:∃ c,Qpv r key m=c:=⟨_,rfl⟩;have aH:=QtS r key m;rw [hc] at HC aH;obtain ⟨a,ha⟩:∃ a,QgA 4 s=a:=⟨_,rfl⟩;obtain ⟨b,hb⟩:∃ b,QgA key c=b:=⟨_,rfl⟩;obtain ⟨d,hd⟩:∃ d,Qml r b=d:=⟨_,rfl⟩;have aG:=Qus key c;rw [hb] at aG;have T:=hid (fun w=>QnY s w hs)
     have Y:=hid (fun w=>Qk1 key c w hk (by omega))
     have aA:=hid (fun w=>Qk8 r b w hr (by omega))
     rw [ha] at T;rw [hb] at Y;rw [hd] at aA
     have HE:=hid (show (decide (a=d)=true↔QdU key m r s) by
      have h:=HH.out;have hz:=HZ.out;unfold QdU;rw [D2,hc,hb,hd,ha]
      exact ⟨fun e=>⟨h.1,h.2.1,h.2.2,hz,e⟩,fun e=>e.2.2.2.2⟩)
     clear hc ha hb hd HZ HH
     go_in
     go_wp2_with fail
     refine (D.out _).mono ?_;rintro e w2 ⟨rfl,E⟩;obtain rfl:=E.symm
     go_wp2_with fail
     refine (G.out _).mono ?_;rintro e w3 ⟨rfl,I⟩;obtain rfl:=I.symm
     go_wp2_with fail
     refine (O.out _).mono ?_;rintro e w4 ⟨rfl,n4,rfl⟩
     go_wp2_with fail
     refine (HC.out n4).mono ?_;rintro e w5 ⟨rfl,aC⟩;have L:Bd w1 w5:=(Qak w1 n4 _).trans aC;have e0:w5.cell? ⟨w.heap.size,0,none⟩=some (.int .u64 (r:Int)):=(L.cell (by show w.heap.size<w1.heap.size;omega)).trans c0
     have e1:w5.cell? ⟨w.heap.size,1,none⟩=some (.int .u64 (s:Int)):=(L.cell (by show w.heap.size<w1.heap.size;omega)).trans c1
     have aF:=hid (C.out.trans (L.mono (by omega)))
     clear aC L c0 c1 aB C S M O HC D G A d3
     go_wp2_with fail
     go_quiet (first
      | (go_at_call_of 262 (Value.int .u64 (s:Int));exact Calls.quiet_of (T.out _))
      | (go_at_call_of 262 (Value.int .u64 (c:Int));exact Calls.quiet_of (Y.out _))
      | (go_at_call 264;exact Calls.quiet_of (aA.out _)))
     go_wp2;go_ret
     have aD:(((a:Int) == (d:Int))=true↔QdU key m r s):=by
      rw [beq_iff_eq,Int.ofNat_inj];exact decide_eq_true_iff.symm.trans HE.out
     exact ⟨_,rfl,aD,aF.out.trans (Qak w5 nq _)⟩
    ·have d4:((z:Int) != 1)=true:=by simp;omega
     have HE:=hid (show (false=true↔QdU key m r s) by
      refine ⟨fun h=>by simp at h,fun h=>?_⟩
      have:=HZ.out
      exact absurd (this.symm.trans h.2.2.2.1) h4)
     clear HZ HH S M aB
     go_in
     go_wp2_with fail
     refine (D.out _).mono ?_;rintro e w2 ⟨rfl,E⟩;obtain rfl:=E.symm
     go_wp2_with fail
     refine (G.out _).mono ?_;rintro e w3 ⟨rfl,I⟩;obtain rfl:=I.symm
     go_wp2_with fail
     refine (O.out _).mono ?_;rintro e w4 ⟨rfl,n4,rfl⟩;go_wp2;go_ret;exact ⟨false,rfl,HE.out,C.out.trans (Qak w1 n4 _)⟩
   ·have D:=hid (fun w=>Qao key w h1)
    have G:=hid (fun w=>Qao r w h2)
    have d3:decide ((576460752303424853:Int)≤(s:Int))=true:=by simp;omega
    have HE:=hid (show (false=true↔QdU key m r s) from ⟨fun h=>by simp at h,fun h=>absurd h.2.2.1 h3⟩)
    obtain ⟨w1,A⟩:∃ w1,w.alloc (.cells #[.int .u64 (r:Int),.int .u64 (s:Int)] 270)=w1:=⟨_,rfl⟩;have q:=bof A;have j:Row w1 w.heap.size 270 [.int .u64 (r:Int),.int .u64 (s:Int)]:=by rw [← A];exact Row.new _ _ _
    have c0:w1.cell? ⟨w.heap.size,0,none⟩=some (.int .u64 (r:Int)):=j.cell 0;have c1:w1.cell? ⟨w.heap.size,1,none⟩=some (.int .u64 (s:Int)):=j.cell 1;have C:=hid q;clear q j hm hK
    go_in
    go_wp2_with fail
    refine (D.out _).mono ?_;rintro e w2 ⟨rfl,E⟩;obtain rfl:=E.symm
    go_wp2_with fail
    refine (G.out _).mono ?_;rintro e w3 ⟨rfl,I⟩;obtain rfl:=I.symm;go_wp2;go_ret;exact ⟨false,rfl,HE.out,C.out⟩
  ·have D:=hid (fun w=>Qao key w h1)
   have G:=hid (fun w=>Qhw r w h2)
   have HE:=hid (show (false=true↔QdU key m r s) from ⟨fun h=>by simp at h,fun h=>absurd h.2.1 h2⟩)
   obtain ⟨w1,A⟩:∃ w1,w.alloc (.cells #[.int .u64 (r:Int),.int .u64 (s:Int)] 270)=w1:=⟨_,rfl⟩;have q:=bof A;have j:Row w1 w.heap.size 270 [.int .u64 (r:Int),.int .u64 (s:Int)]:=by rw [← A];exact Row.new _ _ _
   have c0:w1.cell? ⟨w.heap.size,0,none⟩=some (.int .u64 (r:Int)):=j.cell 0;have c1:w1.cell? ⟨w.heap.size,1,none⟩=some (.int .u64 (s:Int)):=j.cell 1;have C:=hid q;clear q j hm hK
   go_in
   go_wp2_with fail
   refine (D.out _).mono ?_;rintro e w2 ⟨rfl,E⟩;obtain rfl:=E.symm
   go_wp2_with fail
   refine (G.out _).mono ?_;rintro e w3 ⟨rfl,I⟩;obtain rfl:=I.symm;go_wp2;go_ret;exact ⟨false,rfl,HE.out,C.out⟩
 ·have D:=hid (fun w=>Qhw key w h1)
  have HE:=hid (show (false=true↔QdU key m r s) from ⟨fun h=>by simp at h,fun h=>absurd h.1 h1⟩)
  obtain ⟨w1,A⟩:∃ w1,w.alloc (.cells #[.int .u64 (r:Int),.int .u64 (s:Int)] 270)=w1:=⟨_,rfl⟩;have q:=bof A;have j:Row w1 w.heap.size 270 [.int .u64 (r:Int),.int .u64 (s:Int)]:=by rw [← A];exact Row.new _ _ _
  have c0:w1.cell? ⟨w.heap.size,0,none⟩=some (.int .u64 (r:Int)):=j.cell 0;have c1:w1.cell? ⟨w.heap.size,1,none⟩=some (.int .u64 (s:Int)):=j.cell 1;have C:=hid q;clear q j hm hK
  go_in
  go_wp2_with fail
  refine (D.out _).mono ?_;rintro e w2 ⟨rfl,E⟩;obtain rfl:=E.symm;go_wp2;go_ret;exact ⟨false,rfl,HE.out,C.out⟩
end Go.Proofs.YtnedafiokmjkkaaGreatDoor
