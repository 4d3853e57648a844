/- Plain mathematics of pieces written as bytes. -/
import Derived.Test.YtnedafiokmjkkaaGreatDoorpaMemB
import Derived.OwnWalk
import Derived.Deep.RegionHeld3
import Derived.Deep.RegionWith
import Derived.Laws.Cover3
import Derived.Deep.RegionHeldLaw
namespace Go.Proofs.YtnedafiokmjkkaaGreatDoor
open Tryz
variable {B N g n:Nat} {l:List (BitVec 8)} {w w':World} {t:TypeId} {sv v v4:Value} {oa:Option Addr} {xs:List Value} {o:Oper} {a:Act} {Q:Exit→Act→World→Prop}
set_option maxRecDepth 1000000
set_option maxHeartbeats 8000000
def QkB:Nat→Nat→Bg
  | 0,n=>[BitVec.ofNat 8 n]
  | f+1,n=>if n<128 then [BitVec.ofNat 8 n] else BitVec.ofNat 8 (128+n % 128) :: QkB f (n / 128)
def Zb (n:Nat):Bg:=QkB n n
theorem Qa1 (f:Nat) (h:n<128):QkB f n=[BitVec.ofNat 8 n]:=by
  cases f with
  | zero=>rfl
  | succ f=>rw [QkB,if_pos h]
theorem Qr8: ∀ (f f' n:Nat),n≤f→n≤f'→QkB f n=QkB f' n:=by
  intro f
  induction f with
  | zero=>intro f' n h _;rw [Qa1 0 (by omega),Qa1 f' (by omega)]
  | succ f ih =>
    intro f' n h h'
    by_cases hs:n<128
    · rw [Qa1 _ hs,Qa1 _ hs]
    · cases f' with
      | zero=>omega
      | succ f'=>rw [QkB,QkB,if_neg hs,if_neg hs,ih f' (n / 128) (by omega) (by omega)]
theorem Qa0 (h:n<128):Zb n=[BitVec.ofNat 8 n]:=Qa1 n h
theorem Qc0 (h:128≤n):Zb n=BitVec.ofNat 8 (128+n % 128) :: Zb (n / 128):=by
  unfold Zb;obtain ⟨m,rfl⟩:∃ m,n=m+1:=⟨n-1,by omega⟩
  rw [QkB,if_neg (by omega),Qr8 m ((m+1) / 128) _ (by omega) (Bj _)]
theorem Qc1: ∀ (k n:Nat),n<128 ^ k→0<k→(Zb n).length≤k:=by
  intro k
  induction k with
  | zero=>intro n _ h;omega
  | succ k ih =>
    intro n h _
    by_cases hs:n<128
    · rw [Qa0 hs];simp
    · rw [Qc0 (by omega)]
      have hk:0<k:=by
        rcases Nat.eq_zero_or_pos k with rfl | h'
        · simp at h;omega
        · exact h'
      have h2:n / 128<128 ^ k:=by
        rw [DH] at h;exact Nat.div_lt_of_lt_mul (by rw [CA];exact h)
      have:=ih (n / 128) h2 hk;simp;omega
theorem Q4 (n:Nat) (h:n<18446744073709551616):(Zb n).length≤10:=Qc1 10 n (by simp;omega) (by omega)
def Qd9:Nat→Nat→Bg→Option (Nat×Bg)
  | _,_,[]=>none
  | i,n,x :: r =>
    if i=9∧1<x.toNat then none
    else if 128≤x.toNat then Qd9 (i+1) (n+x.toNat % 128*128 ^ i) r
    else if x.toNat=0∧0<i then none
    else some (n+x.toNat % 128*128 ^ i,r)
def Qcx (l:Bg):Option (Nat×Bg):=Qd9 0 0 l
theorem Qrk: ∀ (k i a n:Nat) (r:Bg),n<k→i≤9→n*128 ^ i<18446744073709551616→(0<i→0<n)→Qd9 i a (Zb n ++ r)=some (a+n*128 ^ i,r):=by
  intro k
  induction k with
  | zero=>intro i a n r h;omega
  | succ k ih =>
    intro i a n r hk hi j hp;have h9:i=9→n≤1:=by rintro rfl;simp at j;omega
    by_cases hs:n<128
    · rw [Qa0 hs]
      have e:(BitVec.ofNat 8 n).toNat=n:=by simp;omega
      show Qd9 i a (BitVec.ofNat 8 n :: r)=_
      rw [Qd9,e,if_neg (by rintro ⟨h,h'⟩;have:=h9 h;omega),if_neg (by omega),if_neg (by rintro ⟨h,h'⟩;have:=hp h';omega),Cv hs]
    · rw [Qc0 (by omega)]
      have e:(BitVec.ofNat 8 (128+n % 128)).toNat=128+n % 128:=by simp;omega
      show Qd9 i a (BitVec.ofNat 8 (128+n % 128) :: (Zb (n / 128) ++ r))=_
      have d:i≠9:=fun h=>by have:=h9 h;omega
      have b:n / 128*128 ^ (i+1)+n % 128*128 ^ i=n*128 ^ i:=by
        rw [DH,CA (128 ^ i) 128,← D1,← C0]
        congr 1;omega
      rw [Qd9,e,if_neg (by rintro ⟨h,_⟩;exact d h),if_pos (by omega),ih (i+1) _ (n / 128) r (by omega) (by omega) (by omega) (fun _=>by omega)]
      have:(128+n % 128) % 128=n % 128:=by omega
      rw [this,Da,Nat.add_comm (n % 128*128 ^ i),b]
theorem Qg9 (n:Nat) (r:Bg) (h:n<18446744073709551616):Qcx (Zb n ++ r)=some (n,r):=by
  unfold Qcx;rw [Qrk (n+1) 0 0 n r (by omega) (by omega) (by simpa using h) (by omega)]
  simp
theorem QeW (x:BitVec 8) (n:Nat) (h:x.toNat=n):BitVec.ofNat 8 n=x:=by subst h;simp
theorem Qpr: ∀ (l:Bg) (i a m:Nat) (r:Bg),Qd9 i a l=some (m,r)→i≤9→∃ n,l=Zb n ++ r∧m=a+n*128 ^ i∧(0<i→0<n)∧n*128 ^ i<18446744073709551616:=by
  intro l
  induction l with
  | nil=>intro i a m r h;simp [Qd9] at h
  | cons x l ih =>
    intro i a m r h hi;rw [Qd9] at h
    by_cases h1:i=9∧1<x.toNat
    · rw [if_pos h1] at h;cases h
    rw [if_neg h1] at h
    by_cases h2:128≤x.toNat
    · rw [if_pos h2] at h
      have j:i≠9:=fun e=>h1 ⟨e,by omega⟩
      obtain ⟨n,rfl,rfl,hp,d⟩:=ih _ _ _ _ h (by omega)
      have b:n*128 ^ (i+1)+x.toNat % 128*128 ^ i=(n*128+x.toNat % 128)*128 ^ i:=by
        rw [DH,C0,CA (128 ^ i) 128,← D1]
      refine ⟨n*128+x.toNat % 128,?_,?_,fun _=>by omega,?_⟩
      · rw [Qc0 (n:=n*128+x.toNat % 128) (by omega)]
        rw [show (n*128+x.toNat % 128) / 128=n by omega,QeW x _ (by omega)]
        rfl
      · rw [← b];omega
      · have hb:i≤8:=by omega
        have hlow:x.toNat % 128*128 ^ i+128 ^ i≤128 ^ (i+1):=by
          rw [DH,CA (128 ^ i) 128,← BO];exact Ct _ (by omega)
        rw [← b]
        obtain ⟨e,he⟩:∃ e,18446744073709551616=e*128 ^ (i+1)∨(i=9):=by
          refine ⟨2 ^ (64-7*(i+1)),?_⟩;have hc:i=0∨i=1∨i=2∨i=3∨i=4∨i=5∨i=6∨i=7∨i=8:=by omega
          rcases hc with rfl | rfl | rfl | rfl | rfl | rfl | rfl | rfl | rfl <;> decide
        rcases he with he | he
        · rw [he] at d ⊢
          have q:n<e:=Nat.lt_of_mul_lt_mul_right d;have:(n+1)*128 ^ (i+1)≤e*128 ^ (i+1):=Ct _ q;rw [BO] at this;omega
        · exact absurd he j
    · rw [if_neg h2] at h
      by_cases h3:x.toNat=0∧0<i
      · rw [if_pos h3] at h;cases h
      rw [if_neg h3] at h;obtain ⟨rfl,rfl⟩:a+x.toNat % 128*128 ^ i=m∧l=r:=by simpa using h
      rw [Cv (show x.toNat<128 by omega)]
      refine ⟨x.toNat,?_,rfl,fun h0=>?_,?_⟩
      · rw [Qa0 (by omega),QeW x _ rfl];rfl
      · rcases Nat.eq_zero_or_pos x.toNat with e | e
        · exact absurd ⟨e,h0⟩ h3
        · exact e
      · by_cases e:i=9
        · subst e
          simp;omega
        · have h8:128 ^ i≤128 ^ 8:=Nat.pow_le_pow_right (by omega) (by omega)
          have:x.toNat*128 ^ i≤127*128 ^ 8:=CM (by omega) h8
          simp at this ⊢;omega
theorem QbH {r:Bg} {m:Nat} (h:Qcx l=some (m,r)):l=Zb m ++ r∧m<18446744073709551616:=by
  obtain ⟨n,h1,h2,_,h4⟩:=Qpr l 0 0 m r h (by omega)
  simp at h2 h4;subst h2;exact ⟨h1,h4⟩
structure Pc where
  k:Int
  n:Nat
  b:Bg
def Pc.norm (p:Pc):Pc:=if p.k=1 then ⟨1,p.n,[]⟩ else if p.k=2 then ⟨2,0,p.b⟩ else ⟨p.k,0,[]⟩
def Pc.wr (p:Pc):Bg:=if p.k=1 then 0 :: Zb p.n else 1 :: (Zb p.b.length ++ p.b)
def Pc.ok (p:Pc):Prop:=p.n<18446744073709551616
def QdB (i:Nat) (out:Bg):List Pc→Except (Int×Nat) Bg
  | []=>.ok out
  | p :: r=>if p.k≠1∧p.k≠2 then .error (1,i) else if 20000<(out ++ p.wr).length then .error (4,i) else QdB (i+1) (out ++ p.wr) r
def YB (l:List Pc):Except (Int×Nat) Bg:=if 200<l.length then .error (5,0) else QdB 0 (Zb l.length) l
def Qa6:Bg→Option (Pc×Bg)
  | []=>none
  | x :: r=>if 1<x.toNat then none else
    match Qcx r with
    | none=>none
    | some (n,r')=>if x.toNat=0 then some (⟨1,n,[]⟩,r') else if r'.length<n then none else some (⟨2,0,r'.take n⟩,r'.drop n)
def QbN:Nat→List Pc→Bg→Option (List Pc)
  | 0,acc,b=>if b.length=0 then some acc else none
  | c+1,acc,b=>match Qa6 b with
    | none=>none
    | some (p,r)=>QbN c (acc ++ [p]) r
def ZF (b:Bg):Except Int (List Pc) :=
  if 20000<b.length then .error 4 else
  match Qcx b with
  | none=>.error 2
  | some (n,r)=>if 200<n then .error 2 else
    match QbN n [] r with
    | none=>.error 2
    | some l=>.ok l
theorem Pc.norm_k (p:Pc):p.norm.k=p.k:=by
  unfold Pc.norm;split
  · simp_all
  · split <;> simp_all
theorem Pc.norm_wr (p:Pc) (h:p.k=1∨p.k=2):p.norm.wr=p.wr:=by
  rcases h with h | h <;> simp [Pc.norm,Pc.wr,h]
theorem Pc.norm_ok (p:Pc) (h:p.ok):p.norm.ok:=by
  unfold Pc.norm Pc.ok at *;split
  · exact h
  · split <;> simp
theorem QqJ: ∀ (l:List Pc) (i:Nat) (b:Bg),QdB i b (l.map Pc.norm)=QdB i b l:=by
  intro l
  induction l with
  | nil=>intro i b;rfl
  | cons p r ih =>
    intro i b;simp only [CI,QdB,Pc.norm_k]
    by_cases h:p.k≠1∧p.k≠2
    · rw [if_pos h,if_pos h]
    · rw [if_neg h,if_neg h,Pc.norm_wr p (by omega),ih]
theorem Qig (l:List Pc):YB (l.map Pc.norm)=YB l:=by
  unfold YB;rw [Bp,QqJ]
theorem Qot (p:Pc) (r:Bg) (hk:p.k=1∨p.k=2) (hn:p.ok) (hb:p.b.length<18446744073709551616):Qa6 (p.wr ++ r)=some (p.norm,r):=by
  rcases hk with h | h
  · have e:p.wr ++ r=0 :: (Zb p.n ++ r):=by simp [Pc.wr,h]
    rw [e];simp [Qa6,Qg9 p.n r hn,Pc.norm,h]
  · have e:p.wr ++ r=1 :: (Zb p.b.length ++ (p.b ++ r)):=by simp [Pc.wr,h]
    rw [e];simp [Qa6,Qg9 p.b.length (p.b ++ r) hb,Pc.norm,h]
theorem Qi9 {r:Bg} {p:Pc} (h:Qa6 l=some (p,r)):l=p.wr ++ r∧(p.k=1∨p.k=2)∧p.ok∧p.norm=p:=by
  cases l with
  | nil=>simp [Qa6] at h
  | cons x l =>
    rw [Qa6] at h
    by_cases h1:1<x.toNat
    · rw [if_pos h1] at h;cases h
    rw [if_neg h1] at h
    cases hc:Qcx l with
    | none=>rw [hc] at h;cases h
    | some y =>
      obtain ⟨n,r'⟩:=y;rw [hc] at h;obtain ⟨rfl,hn⟩:=QbH hc;simp only at h
      by_cases h0:x.toNat=0
      · rw [if_pos h0] at h
        obtain ⟨rfl,rfl⟩:(⟨1,n,[]⟩:Pc)=p∧r'=r:=by simpa using h
        have hx:x=0:=DB (by simpa using h0)
        subst hx;exact ⟨by simp [Pc.wr],.inl rfl,hn,rfl⟩
      · rw [if_neg h0] at h
        by_cases h2:r'.length<n
        · rw [if_pos h2] at h;cases h
        · rw [if_neg h2] at h
          obtain ⟨rfl,rfl⟩:(⟨2,0,r'.take n⟩:Pc)=p∧r'.drop n=r:=by simpa using h
          have hx:x=1:=DB (by simp;omega)
          subst hx;have hl:(r'.take n).length=n:=by simp;omega
          refine ⟨?_,.inr rfl,by simp [Pc.ok],rfl⟩
          unfold Pc.wr;rw [if_neg (by simp)]
          simp only [hl,Bz,Cm,CS]
def wrs (l:List Pc):Bg:=(l.map Pc.wr).flatten
theorem QoX: ∀ (l:List Pc) (i:Nat) (b x:Bg),QdB i b l=.ok x→x=b ++ wrs l∧(∀ p∈l,p.k=1∨p.k=2)∧(b.length≤20000→x.length≤20000):=by
  intro l
  induction l with
  | nil=>intro i b x h;simp [QdB] at h;subst h;simp [wrs]
  | cons p r ih =>
    intro i b x h;rw [QdB] at h
    by_cases h1:p.k≠1∧p.k≠2
    · rw [if_pos h1] at h;cases h
    rw [if_neg h1] at h
    by_cases h2:20000<(b ++ p.wr).length
    · rw [if_pos h2] at h;cases h
    rw [if_neg h2] at h;obtain ⟨e1,e2,e3⟩:=ih _ _ _ h;refine ⟨by rw [e1];simp [wrs],?_,fun _=>e3 (by omega)⟩
    intro q hq
    rcases Bo.1 hq with rfl | hq
    · omega
    · exact e2 q hq
theorem Qfm: ∀ (l:List Pc) (i:Nat) (b:Bg),(∀ p∈l,p.k=1∨p.k=2)→(b ++ wrs l).length≤20000→QdB i b l=.ok (b ++ wrs l):=by
  intro l
  induction l with
  | nil=>intro i b _ _;simp [QdB,wrs]
  | cons p r ih =>
    intro i b hk hl;have e:b ++ wrs (p :: r)=(b ++ p.wr) ++ wrs r:=by simp [wrs]
    rw [e] at hl ⊢;have hp:=hk p (by simp)
    rw [QdB,if_neg (by omega),if_neg (by rw [Bs] at hl;omega),ih _ _ (fun q hq=>hk q (by simp [hq])) hl]
theorem Qua: ∀ (l d:List Pc),(∀ p∈l,p.k=1∨p.k=2)→(∀ p∈l,p.ok)→(∀ p∈l,p.b.length<18446744073709551616∨p.k=1)→QbN l.length d (wrs l)=some (d ++ l.map Pc.norm):=by
  intro l
  induction l with
  | nil=>intro d _ _ _;simp [QbN,wrs]
  | cons p r ih =>
    intro d hk ho hb;have e:wrs (p :: r)=p.wr ++ wrs r:=by simp [wrs]
    have m:Qa6 (p.wr ++ wrs r)=some (p.norm,wrs r):=by
      have j:=hk p (by simp)
      rcases hb p (by simp) with h | h
      · exact Qot p _ j (ho p (by simp)) h
      · have hw:p.wr=p.norm.wr:=(Pc.norm_wr p j).symm
        have z:p.norm.norm=p.norm:=by simp [Pc.norm,h]
        rw [hw,Qot p.norm _ (by rw [Pc.norm_k];exact j) (Pc.norm_ok p (ho p (by simp))) (by simp [Pc.norm,h]),z]
    rw [e,Cy,QbN,m];simp only;rw [ih _ (fun q hq=>hk q (by simp [hq])) (fun q hq=>ho q (by simp [hq])) (fun q hq=>hb q (by simp [hq]))]
    simp
theorem Qqm: ∀ (c:Nat) (d m:List Pc) (b:Bg),QbN c d b=some m→∃ l,m=d ++ l∧l.length=c∧b=wrs l∧(∀ p∈l,(p.k=1∨p.k=2)∧p.ok∧p.norm=p):=by
  intro c
  induction c with
  | zero =>
    intro d m b h;rw [QbN] at h
    by_cases h0:b.length=0
    · rw [if_pos h0] at h
      obtain rfl:d=m:=by simpa using h
      exact ⟨[],by simp,rfl,by simpa [wrs] using h0,by simp⟩
    · rw [if_neg h0] at h;cases h
  | succ c ih =>
    intro d m b h;rw [QbN] at h
    cases hc:Qa6 b with
    | none=>rw [hc] at h;cases h
    | some y =>
      obtain ⟨p,r⟩:=y;rw [hc] at h;obtain ⟨rfl,h2⟩:=Qi9 hc;obtain ⟨l,rfl,h3,rfl,h4⟩:=ih _ _ _ h;refine ⟨p :: l,by simp,by simp [h3],by simp [wrs],?_⟩
      intro q hq
      rcases Bo.1 hq with rfl | hq
      · exact h2
      · exact h4 q hq
theorem QtZ (l:List Pc) (p:Pc) (h:p∈l) (hk:p.k=2):p.b.length≤(wrs l).length:=by
  induction l with
  | nil=>simp at h
  | cons q r ih =>
    have e:wrs (q :: r)=q.wr ++ wrs r:=by simp [wrs]
    rw [e,Bs]
    rcases Bo.1 h with rfl | h
    · have:p.b.length≤p.wr.length:=by simp [Pc.wr,hk];omega
      omega
    · have:=ih h;omega
theorem QuF (l:List Pc) (x:Bg) (ho:∀ p∈l,p.ok) (h:YB l=.ok x):ZF x=.ok (l.map Pc.norm):=by
  unfold YB at h
  by_cases h2:200<l.length
  · rw [if_pos h2] at h;cases h
  rw [if_neg h2] at h;obtain ⟨rfl,hk,b⟩:=QoX _ _ _ _ h;have hn:=Qc1 10 l.length (by simp;omega) (by omega)
  have hl:=b (by omega)
  unfold ZF;rw [if_neg (by omega),Qg9 l.length _ (by omega)]
  simp only;rw [if_neg h2,Qua l [] hk ho]
  · simp
  · intro p hp
    rcases hk p hp with h1 | h1
    · exact .inr h1
    · left
      have:=QtZ l p hp h1;rw [Bs] at hl;omega
theorem QuL (b:Bg) (m:List Pc) (h:ZF b=.ok m):YB m=.ok b∧m.length≤200∧(∀ p∈m,p.ok∧p.norm=p):=by
  unfold ZF at h
  by_cases h1:20000<b.length
  · rw [if_pos h1] at h;cases h
  rw [if_neg h1] at h
  cases hc:Qcx b with
  | none=>rw [hc] at h;cases h
  | some y =>
    obtain ⟨n,r⟩:=y;rw [hc] at h;simp only at h
    by_cases h2:200<n
    · rw [if_pos h2] at h;cases h
    rw [if_neg h2] at h
    cases hg:QbN n [] r with
    | none=>rw [hg] at h;cases h
    | some l =>
      rw [hg] at h;obtain rfl:l=m:=by simpa using h
      obtain ⟨rfl,_⟩:=QbH hc;obtain ⟨l',h3,rfl,rfl,h4⟩:=Qqm _ _ _ _ hg;rw [Bv] at h3;subst h3;refine ⟨?_,by omega,fun p hp=>(h4 p hp).2⟩
      unfold YB;rw [if_neg h2,Qfm _ _ _ (fun p hp=>(h4 p hp).1) (by omega)]
theorem Qvg (l m:List Pc) (a b:Bg) (hl:∀ p∈l,p.ok) (hm:∀ p∈m,p.ok) (h1:YB l=.ok a) (h2:YB m=.ok b):a=b↔l.map Pc.norm=m.map Pc.norm:=by
  constructor
  · rintro rfl
    have e1:=QuF l a hl h1;have e2:=QuF m a hm h2;rw [e1] at e2;simpa using e2
  · intro h
    rw [← Qig,h,Qig,h2] at h1;simpa using h1.symm
open Go.RowKit
theorem Qpt (l:Bg) (k:Nat) (h:k<l.length):l.drop k=l.getD k 0 :: l.drop (k+1):=by
  rw [Cs h];simp [h]
theorem wrap64 (n:Nat) (h:n<18446744073709551616):IntKind.u64.wrap (n:Int)=(n:Int):=by
  simp [IntKind.wrap,IntKind.bits,IntKind.signed];omega
theorem Qsc (m k:Nat) (x:BitVec 8) (hk:k≤9) (hm:m<128 ^ k) (h9:k=9→x.toNat≤1) :
    bits .or .u64 (m:Int) (IntKind.u64.wrap (IntKind.u64.wrap (bits .and .u8 (b8 x) 127)*2 ^ (7*k)))=((m+x.toNat % 128*128 ^ k:Nat):Int)∧m+x.toNat % 128*128 ^ k<18446744073709551616:=by
  have hx:=x.isLt
  have h1:bits .and .u8 (b8 x) 127=((x.toNat % 128:Nat):Int):=by
    unfold b8;rw [show (127:Int)=((127:Nat):Int) from rfl,u8_and_nat _ _ hx (by omega),nat_mask7]
  have hp:(128:Nat) ^ k=2 ^ (7*k):=by rw [show (128:Nat)=2 ^ 7 from rfl,← Nat.pow_mul]
  have hlt:x.toNat % 128*128 ^ k+128 ^ k≤18446744073709551616:=by
    rw [← BO]
    by_cases h:k=9
    · have:=h9 h
      subst h;have h2:(x.toNat % 128).succ≤2:=by omega
      exact Bh (Ct _ h2) (by decide)
    · have h8:128 ^ k≤128 ^ 8:=Nat.pow_le_pow_right (by omega) (by omega)
      exact Bh (CM (show (x.toNat % 128).succ≤128 by omega) h8) (by decide)
  have h2:IntKind.u64.wrap ((x.toNat % 128:Nat):Int)=((x.toNat % 128:Nat):Int):=wrap64 _ (by omega)
  have h3:IntKind.u64.wrap (((x.toNat % 128:Nat):Int)*2 ^ (7*k))=((x.toNat % 128*128 ^ k:Nat):Int):=by
    rw [show ((x.toNat % 128:Nat):Int)*2 ^ (7*k)=((x.toNat % 128*128 ^ k:Nat):Int) by rw [hp];simp]
    exact wrap64 _ (by omega)
  refine ⟨?_,by omega⟩
  rw [h1,h2,h3,u64_or_nat _ _ (by omega) (by omega)]
  have h4:=Ed (i:=7*k) (show m<2 ^ (7*k) by rw [← hp];exact hm) (x.toNat % 128)
  rw [Nat.or_comm,CA (x.toNat % 128),hp,← h4,Nat.add_comm]
theorem QdH (l:Bg) (sv:Value) (N:Nat) (w:World) (hb:Bytes w N sv l) (hlen:l.length<2305843009213693952) :
    Calls prog 192 #[sv] w fun e w'=>(∃ q,w'=w.drewN q) ∧
      ((Qcx l=none∧e=.returned (.tuple #[.int .u64 0,Bc,.bool false])) ∨
       ∃ (m:Nat) (r:Bg) (v:Value),Qcx l=some (m,r)∧e=.returned (.tuple #[.int .u64 (m:Int),v,.bool true])∧Bytes w N v r):=by
  obtain ⟨oa,ca,rfl,hca⟩:=hb.shape;generalize hn:l.length=n at *
  go_in
  go_wp2_with fail
  go_loopw [5,10] (fun y i wr=>∃ k m:Nat,k≤n∧k≤9∧m<128 ^ k∧y=.int .u64 (m:Int)∧i=Bb (k:Int)∧wr=w∧Hid (Qcx l=Qd9 k m (l.drop k))) (fun _ i _=>n-(intOf i).toNat)
  case atStart=>exact ⟨0,0,by omega,by omega,by simp,rfl,rfl,rfl,rfl⟩
  case round =>
    obtain ⟨k,m,hk,G,hm,rfl,rfl,rfl,HC⟩:=hrel
    by_cases C:k<n
    · have h1:Bytes wr N (.slice oa l.length ca) l:=by rw [hn];exact hb
      obtain ⟨b,o,rfl,c1⟩:=h1.some (by rw [hn];omega)
      have d1:=(c1 k (by rw [hn];exact C)).2
      obtain ⟨x,hx⟩:∃ x,l.getD k 0=x:=⟨_,rfl⟩;rw [hx] at d1;have HD:l.drop k=x :: l.drop (k+1):=by rw [← hx];exact Qpt l k (by rw [hn];exact C)
      obtain ⟨vt,I,A⟩:=Qci hb .i64 (k+1) (by omega)
      rw [show ((k+1:Nat):Int)=(k:Int)+1 by omega] at I
      clear h1 c1 hx
      by_cases h9:k=9∧1<x.toNat
      · obtain ⟨rfl,L⟩:=h9
        have e2:decide ((1:Int)<b8 x)=true:=by unfold b8;simp;omega
        go_wp2_with fail
        go_ret3
        exact ⟨⟨0,rfl⟩,.inl ⟨by rw [HC.out,HD,Qd9,if_pos ⟨rfl,L⟩],rfl⟩⟩
      · obtain ⟨E,D⟩:=Qsc m k x G hm (fun h=>by omega)
        obtain ⟨m',z⟩:∃ m',m+x.toNat % 128*128 ^ k=m':=⟨_,rfl⟩;rw [z] at E D
        have j:=hid (show Qcx l=if 128≤x.toNat then Qd9 (k+1) m' (l.drop (k+1)) else if x.toNat=0∧0<k then none else some (m',l.drop (k+1)) by
          rw [HC.out,HD,Qd9,if_neg h9,z])
        by_cases h7:128≤x.toNat
        · have e1:((k:Int) == 9)=false:=by simp;omega
          have e2:decide ((128:Int)≤b8 x)=true:=by unfold b8;simp;omega
          go_wp2_with fail
          refine ⟨⟨k+1,m',by omega,by omega,?_,rfl,by go_num,trivial,?_⟩,by simp [intOf];omega⟩
          · have:=hm
            rw [← z,DH];have:x.toNat % 128*128 ^ k+128 ^ k≤128*128 ^ k:=by rw [← BO];exact Ct _ (by omega)
            omega
          · rw [j.out,if_pos h7];exact hid rfl
        · have e2:decide ((128:Int)≤b8 x)=false:=by unfold b8;simp;omega
          by_cases h0:x.toNat=0∧0<k
          · have e3:(b8 x == 0)=true:=by unfold b8;simp;omega
            have e4:decide ((0:Int)<(k:Int))=true:=by simp;omega
            have e5:decide ((1:Int)<b8 x)=false:=by unfold b8;simp;omega
            go_wp2_with fail
            all_goals go_ret3
            all_goals exact ⟨⟨0,rfl⟩,.inl ⟨by rw [j.out,if_neg h7,if_pos h0],rfl⟩⟩
          · have e4:(b8 x == 0 && decide ((0:Int)<(k:Int)))=false:=by unfold b8;simp;omega
            have d:Qcx l=some (m',l.drop (k+1)):=by rw [j.out,if_neg h7,if_neg h0]
            have hkw:IntKind.i64.wrap ((k:Int)+1)=(k:Int)+1:=by simp [IntKind.wrap,IntKind.bits,IntKind.signed];split <;> omega
            by_cases hx0:x.toNat=0
            · have e3:(b8 x == 0)=true:=by unfold b8;simp;omega
              have e1:((k:Int) == 9)=false:=by simp;omega
              have e5:decide ((0:Int)<(k:Int))=false:=by simp;omega
              go_wp2_with fail
              refine JD (by kernel_rfl) (by kernel_rfl) ?_
              repeat still_step
              refine Cd ?_;go_wp2
              go_ret3
              exact ⟨⟨1,rfl⟩,.inr ⟨m',_,_,d,rfl,A⟩⟩
            · have e3:(b8 x == 0)=false:=by unfold b8;simp;omega
              by_cases hk9':k=9
              · have e5:decide ((1:Int)<b8 x)=false:=by unfold b8;simp;omega
                have e1:((k:Int) == 9)=true:=by simp;omega
                clear hk9'
                go_wp2_with fail
                refine JD (by kernel_rfl) (by kernel_rfl) ?_
                repeat still_step
                refine Cd ?_;go_wp2
                go_ret3
                exact ⟨⟨1,rfl⟩,.inr ⟨m',_,_,d,rfl,A⟩⟩
              · have e1:((k:Int) == 9)=false:=by simp;omega
                go_wp2_with fail
                refine JD (by kernel_rfl) (by kernel_rfl) ?_
                repeat still_step
                refine Cd ?_;go_wp2
                go_ret3
                exact ⟨⟨1,rfl⟩,.inr ⟨m',_,_,d,rfl,A⟩⟩
    · have hge:decide ((k:Int)<(n:Int))=false:=by simp;omega
      go_wp2_with fail
      go_ret3
      exact ⟨⟨0,rfl⟩,.inl ⟨by rw [HC.out,CK (by rw [hn];omega),Qd9],rfl⟩⟩
theorem Qtv (k:Nat) (hk:k<18446744073709551616):bits .and .u64 (k:Int) 127=((k % 128:Nat):Int):=by
  rw [show (127:Int)=((127:Nat):Int) from rfl,u64_and_nat _ _ hk (by omega),nat_mask7]
theorem Qt5 (k:Nat) (hk:k<18446744073709551616):bits .or .u8 (bits .and .u64 (k:Int) 127 % 256) 128=b8 (BitVec.ofNat 8 (128+k % 128)):=by
  have h1:k % 128<128:=CQ _ (by omega)
  rw [Qtv k hk,show (((k % 128:Nat):Int)) % 256=((k % 128:Nat):Int) by omega,show (128:Int)=((128:Nat):Int) from rfl,u8_or_nat _ _ (by omega) (by omega),Nat.or_comm]
  have:=Ed (i:=7) (show k % 128<2 ^ 7 by omega) 1
  rw [show (2:Nat) ^ 7*1=128 from rfl] at this;rw [← this];unfold b8;simp;omega
theorem ZR (n:Nat) (l:Bg) (v:Value) (base:Nat) (w:World) (hn:n<18446744073709551616) (hb:base≤w.heap.size) (z:Qq w base v l) (hl:l.length≤1000000) :
    Calls prog 156 #[v,.int .u64 (n:Int)] w fun e w'=>∃ v',e=.returned v'∧Qq w' base v' (l ++ Zb n)∧Below base w w'∧Jl w w':=by
  go_in
  go_wp2_with fail
  go_loopw [0,1] (fun x y wr=>∃ (k:Nat) (m:Bg),y=.int .u64 (k:Int)∧k<18446744073709551616∧Hid (Qq wr base x m∧Below base w wr∧l ++ Zb n=m ++ Zb k∧Jl w wr)) (fun _ y _=>(intOf y).toNat)
  case atStart=>exact ⟨n,l,rfl,hn,z,Bi _ _,rfl,Jl.refl _⟩
  case round =>
    obtain ⟨k,m,rfl,hk,HR⟩:=hrel
    have hm:m.length≤1000020:=by
      have h1:=Bl List.length HR.out.2.2.1;have h2:=Q4 n hn;simp at h1;omega
    have hs:base≤wr.heap.size:=Bh hb HR.out.2.1.size
    by_cases q:k<128
    · have A:decide ((127:Int)<(k:Int))=false:=by simp;omega
      have hy:=hid (show (k:Int)=b8 (BitVec.ofNat 8 k) by unfold b8;simp;omega)
      go_wp2_with (at_builtin;refine Qbt rfl (.tmp 16) (.tmp 19) rfl base _ m rfl HR.out.1 _ _ hy.out rfl (by omega) hs ?_;intro v' w1 b d j)
      go_ret;exact ⟨_,rfl,by rw [HR.out.2.2.1,Qa0 q];exact b,HR.out.2.1.trans d,HR.out.2.2.2.trans j⟩
    · have A:decide ((127:Int)<(k:Int))=true:=by simp;omega
      have hy:bits .or .u8 (bits .and .u64 (k:Int) 127 % 256) 128=b8 (BitVec.ofNat 8 (128+k % 128)):=Qt5 k hk
      go_wp2_with (at_builtin;refine Qbt rfl (.tmp 7) (.tmp 12) rfl base _ m rfl HR.out.1 _ _ rfl rfl (by omega) hs ?_;intro v' w1 b d j)
      go_roundw
      case rel=>exact ⟨k / 128,m ++ [BitVec.ofNat 8 (128+k % 128)],by go_num,by omega,b,HR.out.2.1.trans d,by rw [HR.out.2.2.1,Qc0 (by omega)];simp,HR.out.2.2.2.trans j⟩
      case measure=>simp [intOf];omega
theorem Qsf (w:World):(w.alloc (.cells #[] 5)).ownsRow w.heap.size 5 1 (.slice (some ⟨w.heap.size,0,none⟩) 0 0) 0 [] :=
  ⟨rfl,.inr ⟨w.heap.size,0,#[],rfl,Bj _,BU w _,Bj _,by simp [maxLen],rfl,rfl⟩⟩
theorem Qfr (l:Bg) (sv:Value) (N:Nat) (w:World) (hb:Bytes w N sv l) (hN:N≤w.heap.size) (m:l.length≤140737488355328) :
    Calls prog 102 #[sv] w fun e w'=>∃ v,e=.returned v∧Qq w' w.heap.size v l∧Bd w w':=by
  obtain ⟨oa,ca,rfl,hca⟩:=hb.shape
  have hnil:∀ (a:Option Addr) (n c:Nat) (w:World),(binOp .eql 29 (.slice a n c) (Bc)).run prog w=.ok (.bool a.isNone) w:=fun a n c w=>by
    simp only [binOp];simp [run_equal_slice_nil w _ _ a n c Qlu]
  cases oa with
  | none =>
    have h0:l=[]:=by
      rcases hb with ⟨_,h⟩ | ⟨_,_,h,_⟩ | ⟨_,_,_,h,_⟩
      · exact h
      · simp at h
      · simp at h
    subst h0
    go_in
    go_wp2;go_ret
    have hz:ca=0:=by
      rcases hb with ⟨h,_⟩ | ⟨_,_,h,_⟩ | ⟨_,_,_,h,_⟩
      · simp at h;exact h
      · simp at h
      · simp at h
    subst hz;exact ⟨_,rfl,Qq.nil _ _,Bi _ _⟩
  | some a =>
    have d:Bd w (w.alloc (.cells #[] 5)):=(Bi _ _).alloc (Bj _) _;have q:=hb.below (d.mono hN);have z:=Qsf w
    go_in
    go_wp2_with (at_builtin;refine Qdz rfl (.tmp 5) (.tmp 6) rfl w.heap.size _ 0 [] rfl z _ l rfl q ?_ ?_ ?_;(rw [Bq];exact m);exact d.size;intro v' w1 b j)
    go_ret;refine ⟨_,rfl,?_,d.trans j⟩;rw [Bq,Bv] at b;unfold Qq;exact b
theorem Row.three {a b c:Value} (h:Row w g t [a,b,c]) :
    w.cell? ⟨g,0,none⟩=some a∧w.cell? ⟨g,1,none⟩=some b∧w.cell? ⟨g,2,none⟩=some c∧w.frozen? ⟨g,0,none⟩=false∧w.frozen? ⟨g,1,none⟩=false∧w.frozen? ⟨g,2,none⟩=false :=
  ⟨h.cell 0,h.cell 1,h.cell 2,h.frozen 0,h.frozen 1,h.frozen 2⟩
theorem Row.set3 {a b c:Value} (h:Row w g t [a,b,c]) (x y z:Value) :
    (((w.setCell ⟨g,0,none⟩ x).setCell ⟨g,1,none⟩ y).setCell ⟨g,2,none⟩ z).cell? ⟨g,0,none⟩=some x ∧
    (((w.setCell ⟨g,0,none⟩ x).setCell ⟨g,1,none⟩ y).setCell ⟨g,2,none⟩ z).cell? ⟨g,1,none⟩=some y ∧
    (((w.setCell ⟨g,0,none⟩ x).setCell ⟨g,1,none⟩ y).setCell ⟨g,2,none⟩ z).cell? ⟨g,2,none⟩=some z :=
  have h3:=((h.set 0 x).set 1 y).set 2 z
  ⟨h3.cell 0,h3.cell 1,h3.cell 2⟩
theorem JL {a:World} (h:Below B a w) (hg:B≤g) (x y z:Value):Below B a (((w.setCell ⟨g,0,none⟩ x).setCell ⟨g,1,none⟩ y).setCell ⟨g,2,none⟩ z) :=
  ((h.setCell hg _).setCell hg _).setCell hg _
theorem JE (w:World) (n N:Nat):Below N w (w.drewN n):=⟨rfl,rfl,rfl,Bj _,fun _ _=>rfl⟩
theorem Bytes.above (h:Bytes w' N sv l) (hg:Bd w w') (hN:N≤w.heap.size):Bytes w N sv l:=by
  rcases h with h | h | ⟨b,off,cap,h1,h2,h3⟩
  · exact .inl h
  · exact .inr (.inl h)
  · refine .inr (.inr ⟨b,off,cap,h1,h2,fun i hi=>⟨(h3 i hi).1,?_⟩⟩)
    have hb:=(h3 i hi).1;rw [← (h3 i hi).2];exact (hg.cell (show b<w.heap.size by omega)).symm
theorem Qq.set3 {base:Nat} (h:Qq w base v l) (hg:g<base) (x y z:Value):Qq (((w.setCell ⟨g,0,none⟩ x).setCell ⟨g,1,none⟩ y).setCell ⟨g,2,none⟩ z) base v l :=
  h.keep fun k hk=>by
    rw [Ci _ _ _ _ (show k≠g by omega),Ci _ _ _ _ (show k≠g by omega),Ci _ _ _ _ (show k≠g by omega)]
def pcV (p:Pc) (vb:Value):Value:=.agg #[Bb p.k,.int .u64 (p.n:Int),vb]
theorem Qrl (x:BitVec 8) (r:Bg) (h:1<x.toNat):Qa6 (x :: r)=none:=by rw [Qa6,if_pos h]
theorem Qps (x:BitVec 8) (r:Bg) (h:Qcx r=none):Qa6 (x :: r)=none:=by rw [Qa6,h];split <;> rfl
theorem Qrm (x:BitVec 8) (r r':Bg) (n:Nat) (h0:x.toNat=0) (h:Qcx r=some (n,r')):Qa6 (x :: r)=some (⟨1,n,[]⟩,r'):=by rw [Qa6,if_neg (by omega),h];simp [h0]
theorem Qm2 (x:BitVec 8) (r r':Bg) (n:Nat) (h0:x.toNat=1) (h:Qcx r=some (n,r')):Qa6 (x :: r)=if r'.length<n then none else some (⟨2,0,r'.take n⟩,r'.drop n):=by rw [Qa6,if_neg (by omega),h];simp [h0]
theorem Qkk (l:Bg) (sv:Value) (N:Nat) (w:World) (hb:Bytes w N sv l) (hN:N≤w.heap.size) (hlen:l.length≤140737488355328) :
    Calls prog 193 #[sv] w fun e w'=>Bd w w' ∧
      ((Qa6 l=none∧e=.returned (.tuple #[pcV ⟨0,0,[]⟩ (Bc),Bc,.bool false])) ∨
       ∃ (p:Pc) (r:Bg) (vb vr:Value),Qa6 l=some (p,r)∧e=.returned (.tuple #[pcV p vb,vr,.bool true])∧Qq w' w.heap.size vb p.b∧Bytes w N vr r):=by
  obtain ⟨oa,ca,rfl,hca⟩:=hb.shape;obtain ⟨w0,L⟩:∃ w0,w.alloc (.cells #[Bb 0,.int .u64 0,Bc] 184)=w0:=⟨_,rfl⟩;have C:w0.heap.size=w.heap.size+1:=by rw [← L];simp
  have D:=bof L;have A:Row w0 w.heap.size 184 [Bb 0,.int .u64 0,Bc]:=by rw [← L];exact Row.new _ _ _
  have HB:=hid hb;have j:=hid D;have d:=hid A;have HW0:=hid D;clear hb D A
  cases l with
  | nil =>
    obtain ⟨c0,c1,c2,z0,z1,z2⟩:=d.out.three
    go_in
    go_wp2;obtain ⟨d0,d1,d2⟩:=d.out.set3 (Bb 0) (.int .u64 0) (Bc);refine BK (v:=.tuple #[pcV ⟨0,0,[]⟩ (Bc),Bc,.bool false]) (by simp [results,results193,go_sem,d0,d1,d2,pcV]) rfl ⟨?_,.inl ⟨rfl,rfl⟩⟩
    exact JL j.out (Bj _) _ _ _
  | cons x l =>
    obtain ⟨b,o,rfl,c1⟩:=HB.out.some (by simp)
    have aE:w0.cell? ⟨b,o,none⟩=some (.int .u8 (b8 x)):=by
      have:=c1 0 (by simp)
      rw [j.out.cell (by show b<w.heap.size;omega)]
      simpa using this.2
    have hx8:=x.isLt;obtain ⟨vt,aB,aD⟩:=Qci HB.out .i64 1 (by simp)
    have aK:=hid (show Bytes w N vt l by simpa using aD)
    generalize hn:(x :: l).length=n at *;have HN:=hid hn;have hn0:0<n:=by rw [← hn];simp
    have hne:((n:Int) == 0)=false:=by simp;omega
    have hsl1:∀ w':World,(Instr.sliceAt 29 (.slice (some ⟨b,o,none⟩) n ca) (some (Bb 1)) none none).run prog w'=.ok vt w':=aB;clear c1 aD hn aB
    by_cases T:1<x.toNat
    · have e1:decide ((1:Int)<b8 x)=true:=by unfold b8;simp;omega
      obtain ⟨c0,c1,c2,z0,z1,z2⟩:=d.out.three
      go_in
      go_wp2;obtain ⟨d0,d1,d2⟩:=d.out.set3 (Bb 0) (.int .u64 0) (Bc);refine BK (v:=.tuple #[pcV ⟨0,0,[]⟩ (Bc),Bc,.bool false]) (by simp [results,results193,go_sem,d0,d1,d2,pcV]) rfl ⟨?_,.inl ⟨Qrl x l T,rfl⟩⟩
      exact JL j.out (Bj _) _ _ _
    · have e1:decide ((1:Int)<b8 x)=false:=by unfold b8;simp;omega
      have HC:=hid (QdH l vt N w0 (aK.out.below (j.out.mono hN)) (by have:=HN.out;simp at this;omega))
      go_in
      go_wp2_with fail
      refine HC.out.mono ?_;rintro e w1 ⟨⟨q,rfl⟩,⟨hc,rfl⟩ | ⟨m,r,v,hc,rfl,hv⟩⟩
      · obtain ⟨c0,c1,c2,z0,z1,z2⟩:=(d.out.drewN q).three
        go_wp2;obtain ⟨d0,d1,d2⟩:=(d.out.drewN q).set3 (Bb 0) (.int .u64 0) (Bc);refine BK (v:=.tuple #[pcV ⟨0,0,[]⟩ (Bc),Bc,.bool false]) (by simp [results,results193,go_sem,d0,d1,d2,pcV]) rfl ⟨?_,.inl ⟨Qps x l hc,rfl⟩⟩
        exact JL (j.out.trans (JE w0 q _)) (Bj _) _ _ _
      · obtain ⟨rfl,hm64⟩:=QbH hc
        have HV:=hid hv;have M:=hid hc;obtain ⟨ov,cv,rfl,hcv⟩:=hv.shape;have hxq:(w0.drewN q).cell? ⟨b,o,none⟩=some (.int .u8 (b8 x)):=aE;clear hv hc aE
        by_cases aM:x.toNat=0
        · have e2:(b8 x == 0)=true:=by unfold b8;simp;omega
          obtain ⟨c0,c1,c2,z0,z1,z2⟩:=(d.out.drewN q).three;go_wp2;obtain ⟨d0,d1,d2⟩:=(d.out.drewN q).set3 (Bb 1) (.int .u64 (m:Int)) (Bc);refine BK (v:=.tuple #[pcV ⟨1,m,[]⟩ (Bc),.slice ov r.length cv,.bool true]) (by simp [results,results193,go_sem,d0,d1,d2,pcV]) rfl ⟨?_,.inr ⟨_,r,_,_,Qrm x _ r m aM M.out,rfl,Qq.nil _ _,HV.out.above j.out hN⟩⟩
          exact JL (j.out.trans (JE w0 q _)) (Bj _) _ _ _
        · have e2:(b8 x == 0)=false:=by unfold b8;simp;omega
          have O:=hid (Qm2 x _ r m (by omega) M.out)
          have hrl:r.length≤140737488355328:=by have:=HN.out;simp at this;omega
          have hwr:IntKind.u64.wrap (r.length:Int)=(r.length:Int):=wrap64 _ (by omega)
          by_cases Y:r.length<m
          · have e3:decide ((r.length:Int)<(m:Int))=true:=by simp;omega
            obtain ⟨c0,c1,c2,z0,z1,z2⟩:=(d.out.drewN q).three;go_wp2;obtain ⟨d0,d1,d2⟩:=(d.out.drewN q).set3 (Bb 0) (.int .u64 0) (Bc);refine BK (v:=.tuple #[pcV ⟨0,0,[]⟩ (Bc),Bc,.bool false]) (by simp [results,results193,go_sem,d0,d1,d2,pcV]) rfl ⟨?_,.inl ⟨by rw [O.out,if_pos Y],rfl⟩⟩
            exact JL (j.out.trans (JE w0 q _)) (Bj _) _ _ _
          · have e3:decide ((r.length:Int)<(m:Int))=false:=by simp;omega
            obtain ⟨v1,hs1,G⟩:=QsS HV.out .u64 m (by omega)
            obtain ⟨v2,hs2,aC⟩:=Qci HV.out .u64 m (by omega)
            have aI:=hid (aC.above j.out hN);obtain ⟨t,ht⟩:∃ t,r.take m=t:=⟨_,rfl⟩;rw [ht] at G;have aL:t.length≤140737488355328:=by rw [← ht];simp;omega
            have HT:=hid (show Qa6 (x :: (Zb m ++ r))=some (⟨2,0,t⟩,r.drop m) by rw [O.out,if_neg Y,ht])
            clear ht;have aH:=hid (fun (k:Nat)=>Qfr t v1 N (w0.drewN k) (G.below (JE _ _ _)) (by show N≤w0.heap.size;omega) aL)
            clear G aC
            go_wp2_with fail
            have HBD:Hid (Bd w0 (w0.drewN (q+1))):=hid (JE _ _ _)
            go_region_with (go_at_call 102;refine (aH.out _).mono ?_;rintro e wc ⟨vc,rfl,I,E⟩;obtain ⟨aF,S,rfl,hcvc⟩:=I.shape;have aA:=hid (d.out.below ((JE w0 _ _).trans E) (Nat.lt_of_lt_of_eq (Nat.lt_succ_self _) C.symm));have z:=(JE w0 _ _).trans E;have aG:=hid z;have aJ:=hid I;obtain ⟨c0,c1,c2,z0,z1,z2⟩:=(d.out.below z (Nat.lt_of_lt_of_eq (Nat.lt_succ_self _) C.symm)).three;clear E z I)
            go_wp2;obtain ⟨d0,d1,d2⟩:=aA.out.set3 (Bb 2) (.int .u64 0) (.slice aF t.length S);refine BK (v:=.tuple #[pcV ⟨2,0,t⟩ (.slice aF t.length S),v2,.bool true]) (by simp [results,results193,go_sem,d0,d1,d2,pcV]) rfl ⟨?_,.inr ⟨_,_,_,_,HT.out,rfl,?_,aI.out⟩⟩
            · exact JL (j.out.trans (aG.out.mono (show w.heap.size≤w0.heap.size by omega))) (Bj _) _ _ _
            · refine (Qq.set3 aJ.out (show w.heap.size<w0.heap.size by omega) _ _ _).mono (show w.heap.size≤w0.heap.size by omega)
def JC (w:World) (N:Nat) (sv:Value) (l:List Pc):Prop :=
  (sv=Bc∧l=[])∨(∃ a cap,sv=.slice (some a) 0 cap∧l=[]) ∨
  ∃ b off cap,sv=.slice (some ⟨b,off,none⟩) l.length cap∧l.length≤cap∧∀ i p,l[i]?=some p→b<N∧∃ vb,
    w.cell? ⟨b,off+i*3,none⟩=some (Bb p.k)∧w.cell? ⟨b,off+i*3+1,none⟩=some (.int .u64 (p.n:Int))∧w.cell? ⟨b,off+i*3+2,none⟩=some vb∧Bytes w N vb p.b
theorem JC.shape {l:List Pc} (h:JC w N sv l):∃ oa d,sv=.slice oa l.length d∧l.length≤d:=by
  rcases h with ⟨rfl,rfl⟩ | ⟨a,d,rfl,rfl⟩ | ⟨b,off,d,rfl,hc,_⟩
  · exact ⟨none,0,rfl,Bj _⟩
  · exact ⟨_,d,rfl,BJ _⟩
  · exact ⟨_,d,rfl,hc⟩
theorem JC.some {e:Nat} {l:List Pc} (h:JC w N (.slice oa n e) l) (hl:0<n) :
    ∃ b d,oa=some ⟨b,d,none⟩∧∀ i p,l[i]?=some p→b<N∧∃ vb,
    w.cell? ⟨b,d+i*3,none⟩=some (Bb p.k)∧w.cell? ⟨b,d+i*3+1,none⟩=some (.int .u64 (p.n:Int))∧w.cell? ⟨b,d+i*3+2,none⟩=some vb∧Bytes w N vb p.b:=by
  rcases h with ⟨h1,_⟩ | ⟨_,_,h1,_⟩ | ⟨b,d,c,h1,_,h3⟩
  · simp at h1;omega
  · simp at h1;omega
  · simp at h1
    exact ⟨b,d,h1.1,h3⟩
theorem JC.below {l:List Pc} (h:JC w N sv l) (hg:Below N w w'):JC w' N sv l:=by
  rcases h with h | h | ⟨b,off,cap,h1,h2,h3⟩
  · exact .inl h
  · exact .inr (.inl h)
  · refine .inr (.inr ⟨b,off,cap,h1,h2,fun i p hp=>?_⟩)
    obtain ⟨hb,vb,d0,d1,d2,d3⟩:=h3 i p hp;exact ⟨hb,vb,(hg.cell hb).trans d0,(hg.cell hb).trans d1,(hg.cell hb).trans d2,d3.below hg⟩
theorem JC.mono {l:List Pc} (h:JC w N sv l) (hN:N≤g):JC w g sv l:=by
  rcases h with h | h | ⟨b,off,cap,h1,h2,h3⟩
  · exact .inl h
  · exact .inr (.inl h)
  · refine .inr (.inr ⟨b,off,cap,h1,h2,fun i p hp=>?_⟩)
    obtain ⟨hb,vb,d0,d1,d2,d3⟩:=h3 i p hp;exact ⟨Br hb hN,vb,d0,d1,d2,d3.mono hN⟩
def Pc.fits (p:Pc):Prop:=p.ok∧p.b.length≤140737488351232
theorem Qb8: (prog.info? 184).map (fun i=>(i.zero,i.size,i.bytes))=some (some (.agg #[Bb 0,.int .u64 0,Bc]),3,40):=by kernel_rfl
def YM (q:Pc×Value):List Value:=[Bb q.1.k,.int .u64 (q.1.n:Int),q.2]
def Qes (w:World) (base:Nat) (v:Value) (ps:List (Pc×Value)):Prop :=
  w.ownsRow base 184 3 v ps.length (ps.flatMap YM)∧∀ q∈ps,Qq w base q.2 q.1.b
theorem Qes.nil (w:World) (base:Nat):Qes w base (Bc) []:=⟨Db w base 184 3,fun _ h=>by simp at h⟩
theorem Ye {base e size:Nat} (h:w.ownsRow base e size v n xs) (hg:Bd w w'):w'.ownsRow base e size v n xs:=by
  obtain ⟨h1,h2⟩:=h;refine ⟨h1,?_⟩
  rcases h2 with h2 | ⟨g,cap,cur,h3,h4,h5,h6⟩
  · exact .inl h2
  · exact .inr ⟨g,cap,cur,h3,h4,(hg.block g (BQ.1 h5).1).trans h5,h6⟩
theorem Qq.below {base:Nat} (h:Qq w base v l) (hg:Bd w w'):Qq w' base v l:=Ye h hg
theorem Qes.below {base:Nat} {ps:List (Pc×Value)} (h:Qes w base v ps) (hg:Bd w w'):Qes w' base v ps :=
  ⟨Ye h.1 hg,fun q hq=>(h.2 q hq).below hg⟩
theorem Qes.shape {base:Nat} {ps:List (Pc×Value)} (h:Qes w base v ps):∃ oa b,v=.slice oa ps.length b∧ps.length≤b:=by
  obtain ⟨⟨_,h2⟩,_⟩:=h
  rcases h2 with ⟨h3,h4⟩ | ⟨g,b,cur,h3,_,_,h4,_⟩
  · exact ⟨none,0,by rw [h4];exact h3,by omega⟩
  · exact ⟨_,b,h3,h4⟩
theorem Qq.grown {base base':Nat} (h:Qq w base v4 l) (hv:w.ownsRow base' 184 3 v n xs) (hg:w.grownBy w' v.ownBlock):Qq w' base v4 l:=by
  obtain ⟨h1,h2⟩:=h;refine ⟨h1,?_⟩
  rcases h2 with h2 | ⟨g,cap,cur,h3,h4,h5,h6⟩
  · exact .inl h2
  · refine .inr ⟨g,cap,cur,h3,h4,?_,h6⟩
    rw [hg.block g (BQ.1 h5).1 ?_,h5];intro he;obtain ⟨_,h7⟩:=hv
    rcases h7 with ⟨rfl,_⟩ | ⟨g',c',cur',rfl,_,b,_⟩
    · simp [Value.ownBlock] at he
    · obtain rfl:g=g':=by simpa [Value.ownBlock] using he
      rw [b] at h5;simp at h5
theorem QdA {m:Array Oper} {rest:List Oper} (z:o.guard=none) (s x:Operand)
    (ho:o.op=.call { callee:=.builtin .append,args:=#[s,x],argTypes:=#[186,186] })
    (base:Nat) (v:Value) (ps:List (Pc×Value)) (hs:a.eval s=v) (e:Qes w base v ps) (p:Pc) (ob:Option Addr) (cb:Nat) (hp:Qq w base (.slice ob p.b.length cb) p.b)
    (hx:a.eval x=.slice (some ⟨w.heap.size,0,none⟩) 1 1) (hl:ps.length≤1000000) (j:base≤w.heap.size)
    (h:∀ v' w',Qes w' base v' (ps ++ [(p,.slice ob p.b.length cb)])→Below base w w'→wpList prog m Q rest (a.put o.dst v') w') :
    wpList prog m Q (o :: rest) a (w.alloc (.cells #[Bb p.k,.int .u64 (p.n:Int),.slice ob p.b.length cb] 184)):=by
  obtain ⟨i0,A,C,D,E⟩:=Cj Qb8;have d:Bd w (w.alloc (.cells #[Bb p.k,.int .u64 (p.n:Int),.slice ob p.b.length cb] 184)):=(Bi _ _).alloc (Bj _) _
  refine Eb _ z s x 186 ho base 184 i0 _ 3 40 underlying186 A C D E rfl (by decide) v ps.length (ps.flatMap YM) hs (Ye e.1 d) ⟨w.heap.size,0,none⟩ 1 1
    [Bb p.k,.int .u64 (p.n:Int),.slice ob p.b.length cb] hx rfl (Qi5 _ _ _) (by simp) (by unfold maxLen;omega) (by omega) (Bh j d.size) ?_
  intro v' w' h1 h2 _;refine h v' w' ⟨?_,fun q hq=>?_⟩ ((d.mono j).trans ((Bi base _).grown h2 (Bh j d.size) (fun k hk=>((Ye e.1 d).lt k hk).1)))
  · rw [Bs,List.flatMap_append]
    exact h1
  · rcases By.1 hq with hq | hq
    · exact ((e.2 q hq).below d).grown (Ye e.1 d) h2
    · obtain rfl:q=(p,.slice ob p.b.length cb):=by simpa using hq
      exact (hp.below d).grown (Ye e.1 d) h2
theorem Qlx (ps:List (Pc×Value)):∀ (i j:Nat) (q:Pc×Value),ps[i]?=some q→j<3→(ps.flatMap YM)[i*3+j]?=(YM q)[j]?:=by
  induction ps with
  | nil=>intro i j q h;simp at h
  | cons a ps ih =>
    intro i j q h hj;rw [List.flatMap_cons];have ha:(YM a).length=3:=rfl
    cases i with
    | zero =>
      obtain rfl:a=q:=by simpa using h
      rw [CR,Bq,Cw (by omega)]
    | succ i =>
      rw [CY (by omega),ha,show (i+1)*3+j-3=i*3+j by omega]
      exact ih i j q (by simpa using h) hj
theorem Qes.pieces {base:Nat} {ps:List (Pc×Value)} (h:Qes w base v ps):JC w w.heap.size v (ps.map (·.1)):=by
  obtain ⟨⟨h1,h2⟩,h3⟩:=h
  rcases h2 with ⟨rfl,h0⟩ | ⟨g,d,e,rfl,_,hg,hn,_,hc,hx⟩
  · exact .inl ⟨rfl,by rw [CE.1 h0];rfl⟩
  · refine .inr (.inr ⟨g,0,d,by simp,by simpa using hn,fun i p hp=>?_⟩)
    obtain ⟨q,hq,rfl⟩:∃ q,ps[i]?=some q∧q.1=p:=by simpa using hp
    refine ⟨(BQ.1 hg).1,q.2,?_⟩;have hil:i<ps.length:=(Bm.1 hq).1
    have b:∀ j,j<3→w.cell? ⟨g,0+i*3+j,none⟩=(YM q)[j]?:=fun j hj=>by
      rw [CD w g _ e _ _ hg,← Qlx ps i j q hq hj,← hx,BH,if_pos (by omega),Bq,Dp]
    exact ⟨b 0 (by omega),b 1 (by omega),b 2 (by omega),(h3 q (Bn hq)).bytes⟩
theorem QnH (b:Bg) (h:20000<b.length):ZF b=.error 4:=by unfold ZF;rw [if_pos h]
theorem QnI (b:Bg) (h:¬ 20000<b.length) (hc:Qcx b=none):ZF b=.error 2:=by unfold ZF;rw [if_neg h,hc]
theorem QnG (b r:Bg) (n:Nat) (h:¬ 20000<b.length) (hc:Qcx b=some (n,r)) (hn:200<n):ZF b=.error 2:=by unfold ZF;rw [if_neg h,hc];simp only;rw [if_pos hn]
theorem Qst (b r:Bg) (n:Nat) (h:¬ 20000<b.length) (hc:Qcx b=some (n,r)) (hn:¬ 200<n):ZF b=match QbN n [] r with | none=>.error 2 | some l=>.ok l:=by unfold ZF;rw [if_neg h,hc];simp only;rw [if_neg hn];first | done | (cases QbN n [] r <;> rfl)
theorem Qqo (d:List Pc) (b:Bg):QbN 0 d b=if b.length=0 then some d else none:=rfl
theorem Qql (c:Nat) (d:List Pc) (b:Bg) (hc:0<c) (h:Qa6 b=none):QbN c d b=none:=by
  cases c with
  | zero=>omega
  | succ c=>rw [QbN,h]
theorem Qqn (c d:Nat) (e:List Pc) (b r:Bg) (p:Pc) (hc:c=d+1) (h:Qa6 b=some (p,r)):QbN c e b=QbN d (e ++ [p]) r:=by
  subst hc;rw [QbN,h]
theorem Qsv (b:Bg) (sv:Value) (N:Nat) (w:World) (hb:Bytes w N sv b) (hN:N≤w.heap.size) (hlen:b.length≤140737488355328) :
    Calls prog 149 #[sv] w fun e w'=>Bd w w' ∧
      ((∃ m v,ZF b=.ok m∧e=.returned (.tuple #[v,Bb 0])∧JC w' w'.heap.size v m) ∨
       ∃ c,ZF b=.error c∧e=.returned (.tuple #[Bc,Bb c])):=by
  obtain ⟨oa,ca,rfl,hca⟩:=hb.shape;have HB:=hid hb;clear hb;generalize hn:b.length=n at *;have HN:=hid hn;clear hn
  by_cases G:20000<n
  · have e1:decide ((20000:Int)<(n:Int))=true:=by simp;omega
    go_in
    go_wp2;go_ret2;exact ⟨Bi _ _,.inr ⟨4,QnH b (by rw [HN.out];exact G),rfl⟩⟩
  · have e1:decide ((20000:Int)<(n:Int))=false:=by simp;omega
    have HM:=hid (show ¬ 20000<b.length by rw [HN.out];exact G)
    have HC:=hid (QdH b _ N w HB.out (by rw [HN.out];omega))
    go_in
    go_wp2_with fail
    refine HC.out.mono ?_;rintro e w1 ⟨⟨q,rfl⟩,⟨hc,rfl⟩ | ⟨c,r,v,hc,rfl,hv⟩⟩
    · go_wp2
      go_ret2;exact ⟨JE _ _ _,.inr ⟨2,QnI b HM.out hc,rfl⟩⟩
    · have aF:=hid hc
      have HV:=hid hv;have hc64:=(QbH hc).2;have aW:r.length≤20000:=by have h1:=(QbH hc).1;have h2:=HM.out;rw [h1] at h2;simp at h2;omega
      clear hc hv
      by_cases E:200<c
      · have e2:decide ((200:Int)<(c:Int))=true:=by simp;omega
        go_wp2;go_ret2;exact ⟨JE _ _ _,.inr ⟨2,QnG b r c HM.out aF.out E,rfl⟩⟩
      · have e2:decide ((200:Int)<(c:Int))=false:=by simp;omega
        have aA:=hid (Qst b r c HM.out aF.out E)
        go_wp2_with fail
        go_loopw [5,7,25] (fun y z i wr=>∃ (k:Nat) (ps:List (Pc×Value)) (t:Bg),k≤c∧ps.length=k∧t.length≤20000∧i=.int .u64 (k:Int)∧Hid (Bytes w N y t∧Qes wr w.heap.size z ps∧Bd w wr∧QbN c [] r=QbN (c-k) (ps.map (·.1)) t)) (fun _ _ i _=>c-(intOf i).toNat)
        case atStart=>exact ⟨0,[],r,by omega,rfl,aW,rfl,HV.out,Qes.nil _ _,JE _ _ _,rfl⟩
        case round =>
          obtain ⟨k,ps,t,hk,aJ,ht,rfl,HR⟩:=hrel;have aP:=hid (show ps.length≤1000000 by omega)
          have aQ:=hid aJ;clear aJ
          by_cases hlt:k<c
          · obtain ⟨oy,cy,rfl,aU⟩:=HR.out.1.shape
            obtain ⟨oz,cz,rfl,hcz⟩:=HR.out.2.1.shape;have hlt':(k:Int)<(c:Int):=by omega
            have L:=HR.out.2.2.1.size;obtain ⟨w1,M⟩:∃ w1,wr.alloc (.cells #[Bb 0,.int .u64 0,Bc] 184)=w1:=⟨_,rfl⟩;have hsz1:w1.heap.size=wr.heap.size+1:=by rw [← M];simp
            have aB:=bof M;have I:Row w1 wr.heap.size 184 [Bb 0,.int .u64 0,Bc]:=by rw [← M];exact Row.new _ _ _
            have D:Bd w w1:=HR.out.2.2.1.trans (aB.mono L);have aN:=hid (Qkk t (.slice oy t.length cy) N w1 (HR.out.1.below (D.mono hN)) (by omega) (by omega))
            have aK:=hid aB;have aG:=hid I;have S:=hid D;have aS:=hid M;clear aB I D M
            go_wp2_with fail
            rw [aS.out];refine aN.out.mono ?_;rintro e w2 ⟨C,⟨d,rfl⟩ | ⟨p,t',vb,vr,d,rfl,hvb,hvr⟩⟩
            · obtain ⟨c0,c1,c2,z0,z1,z2⟩:=(aG.out.below C (by omega)).three
              have aL:=hid C;have A:=hid d;unfold pcV;clear C d;go_wp2;go_ret2;refine ⟨?_,.inr ⟨2,?_,rfl⟩⟩
              · exact JL (S.out.trans (aL.out.mono (by omega))) L _ _ _
              · rw [aA.out,HR.out.2.2.2,Qql _ _ _ (by omega) A.out]
            · obtain ⟨ob,cb,rfl,hcb⟩:=hvb.shape
              have j:=aG.out.below C (by omega)
              obtain ⟨c0,c1,c2,z0,z1,z2⟩:=j.three;obtain ⟨d0,d1,d2⟩:=j.set3 (Bb p.k) (.int .u64 (p.n:Int)) (.slice ob p.b.length cb);obtain ⟨w3,aE⟩:∃ w3,((w2.setCell ⟨wr.heap.size,0,none⟩ (Bb p.k)).setCell ⟨wr.heap.size,1,none⟩ (.int .u64 (p.n:Int))).setCell ⟨wr.heap.size,2,none⟩ (.slice ob p.b.length cb)=w3:=⟨_,rfl⟩;have O:Bd wr w3:=by rw [← aE];exact JL (aK.out.trans (C.mono (by omega))) (Bj _) _ _ _
              have Y:Qq w3 w.heap.size (.slice ob p.b.length cb) p.b:=by rw [← aE];exact (hvb.set3 (show wr.heap.size<w1.heap.size by omega) _ _ _).mono (by omega)
              rw [aE] at d0 d1 d2;have aM:=hid (HR.out.2.2.1.trans (O.mono L));have aO:=hid (HR.out.2.1.below O);have aI:=hid Y;have aR:=hid (hvr.above S.out hN);have A:=hid d;have aH:=hid (show w.heap.size≤w3.heap.size by have:=O.size;omega)
              unfold pcV;clear C O Y hvb hvr d j
              go_wp2_with (at_builtin;refine QdA rfl (.tmp 35) (.tmp 37) rfl w.heap.size _ ps rfl aO.out p ob cb aI.out rfl aP.out aH.out ?_;intro v' w4 aC aT)
              go_roundw
              case rel =>
                refine ⟨k+1,ps ++ [(p,.slice ob p.b.length cb)],t',by omega,by simp [aQ.out],?_,by go_num,aR.out,aC,aM.out.trans aT,?_⟩
                · have h1:=Bl List.length (Qi9 A.out).1
                  simp at h1;omega
                · rw [HR.out.2.2.2,Qqn (c-k) (c-(k+1)) _ t t' p (by omega) A.out]
                  simp
              case measure=>simp [intOf];omega
          · have hge:decide ((k:Int)<(c:Int))=false:=by simp;omega
            obtain ⟨oy,cy,rfl,aU⟩:=HR.out.1.shape;have aV:c-k=0:=by omega
            have T:=hid (show QbN c [] r=if t.length=0 then some (ps.map (·.1)) else none by rw [HR.out.2.2.2,aV,Qqo])
            by_cases aD:t.length=0
            · have e3:decide ((0:Int)<(t.length:Int))=false:=by rw [aD];decide
              go_wp2;go_ret2;exact ⟨HR.out.2.2.1,.inl ⟨_,_,by rw [aA.out,T.out,if_pos aD],rfl,HR.out.2.1.pieces⟩⟩
            · have e3:decide ((0:Int)<(t.length:Int))=true:=BB (by omega)
              go_wp2;go_ret2;exact ⟨HR.out.2.2.1,.inr ⟨2,by rw [aA.out,T.out,if_neg aD],rfl⟩⟩
theorem QmE (n:Nat) (h:n≤1000000):IntKind.i64.wrap (20000-(n:Int))=20000-(n:Int):=by simp [IntKind.wrap,IntKind.bits,IntKind.signed];split <;> omega
theorem Qgn (p:Pc) (l:Bg) (v vb:Value) (base N:Nat) (w:World) (hb:base≤w.heap.size) (aF:Qq w base v l) (hl:l.length≤20000) (hp:p.ok) (aY:Bytes w N vb p.b) (hN:N≤base) (hpl:p.b.length≤140737488351232) :
    Calls prog 157 #[v,pcV p vb] w fun e w'=>Below base w w' ∧
      ((¬ (p.k=1∨p.k=2)∧e=.returned (.tuple #[Bc,Bb 1])) ∨
       ((p.k=1∨p.k=2)∧20000<(l ++ p.wr).length∧e=.returned (.tuple #[Bc,Bb 4])) ∨
       ((p.k=1∨p.k=2)∧(l ++ p.wr).length≤20000∧∃ v',e=.returned (.tuple #[v',Bb 0])∧Qq w' base v' (l ++ p.wr))):=by
  obtain ⟨ob,cb,rfl,hcb⟩:=aY.shape;obtain ⟨ov,cv,rfl,hcv⟩:=aF.shape;obtain ⟨w0,aH⟩:∃ w0,w.alloc (.cells #[Bb p.k,.int .u64 (p.n:Int),.slice ob p.b.length cb] 184)=w0:=⟨_,rfl⟩;have aK:w0.heap.size=w.heap.size+1:=by rw [← aH];simp
  have aX:=bof aH;have Y:Row w0 w.heap.size 184 [Bb p.k,.int .u64 (p.n:Int),.slice ob p.b.length cb]:=by rw [← aH];exact Row.new _ _ _
  obtain ⟨c0,c1,c2,z0,z1,z2⟩:=Y.three;have HO:=hid (show Qq w0 base (.slice ov l.length cv) l by rw [← aH];exact aF.alloc _)
  have a9:=hid (aY.below (aX.mono (Bh hN hb)));have aP:=hid aX;have aZ:=hid Y;clear aF aY aX Y;unfold pcV
  by_cases E:p.k=1
  · have e1:(p.k == 1)=true:=by simp [E]
    have HK:=hid E;clear E
    go_in
    go_wp2_with fail
    have aL:=hid (show Qq (w0.alloc (.cells #[.int .u8 0] 5)).drew base (.slice ov l.length cv) l from HO.out.alloc _);have aM:=hid (show Bytes (w0.alloc (.cells #[.int .u8 0] 5)).drew (w0.heap.size+1) (.slice (some ⟨w.heap.size+1,0,none⟩) 1 1) [0] by rw [← aK];exact (ZS w0 [0] 5 (0,0) 1 (by simp)).drewN 1)
    have aN:=hid (show l.length+[(0:BitVec 8)].length≤140737488355328 by simp;omega)
    have aA:=hid (show base≤((w0.alloc (.cells #[.int .u8 0] 5)).drew).heap.size by show base≤(w0.alloc (.cells #[.int .u8 0] 5)).heap.size;simp;omega)
    have aO:=hid (show Row ((w0.alloc (.cells #[.int .u8 0] 5)).drew) w.heap.size 184 [Bb p.k,.int .u64 (p.n:Int),.slice ob p.b.length cb] from (aZ.out.alloc _));obtain ⟨l1,q⟩:∃ l1,l ++ [0]=l1:=⟨_,rfl⟩;obtain ⟨l2,z⟩:∃ l2,l1 ++ Zb p.n=l2:=⟨_,rfl⟩;have aS:=hid q;have aT:=hid z;have L:l1.length≤1000000:=by rw [← q];simp;omega
    have M:l2=l ++ p.wr:=by rw [← z,← q];simp [Pc.wr,HK.out]
    have aE:l2.length≤1000000:=by have:=Q4 p.n hp;rw [← z,← q];simp;omega
    have S:=hid M;have aU:=hid L;clear q z M L
    go_region_law (first
      | (refine QbR rfl (.tmp 11) (.tmp 12) rfl base (.slice ov l.length cv) l ?_ aL.out (.slice (some ⟨w.heap.size+1,0,none⟩) 1 1) [0] ?_ aM.out aN.out aA.out ?_;rfl;rfl;intro v1 w1 d C m;rw [aS.out] at d;obtain ⟨o1,k1,rfl,E⟩:=d.shape;have aG:=hid (m.row aO.out (by decide));have c1':=aG.out.cell 1;have aV:=hid d;have A:=hid C;have aJ:=hid m;clear d C m)
      | (go_simp;go_at_call 156;refine (ZR p.n l1 (.slice o1 l1.length k1) base w1 hp (Bh aA.out A.out.size) aV.out aU.out).mono ?_;rintro e w2 ⟨v2,rfl,j,D,I⟩;rw [aT.out] at j;obtain ⟨o2,k2,rfl,G⟩:=j.shape;have aW:=hid j;have aB:=hid (A.out.trans D);have HKE2:=hid (aJ.out.trans I);clear j D I))
    all_goals
      have aa:=QmE l2.length aE;have O:=hid ((aP.out.mono hb).trans ((((Bi base w0).alloc (show base≤w0.heap.size by omega) (.cells #[.int .u8 0] 5)).drew).trans aB.out))
      by_cases aD:20000<l2.length
      · have e3:decide ((20000:Int)-(l2.length:Int)<0)=true:=by simp;omega
        go_wp2;go_ret2;exact ⟨O.out,.inr (.inl ⟨.inl HK.out,by rw [← S.out];exact aD,rfl⟩)⟩
      · have e3:decide ((20000:Int)-(l2.length:Int)<0)=false:=by simp;omega
        have aQ:=hid (show l2.length+([]:Bg).length≤140737488355328 by simp;omega)
        have aR:=hid (show base≤w2.heap.size from Bh hb O.out.size)
        go_wp2_with (at_builtin;refine JR rfl (.tmp 35) (.tmp 36) rfl base _ l2 rfl aW.out _ [] rfl (N:=0) (.inl ⟨rfl,rfl⟩) aQ.out aR.out ?_;intro v3 w3 T aC a4)
        go_ret2;exact ⟨O.out.trans aC,.inr (.inr ⟨.inl HK.out,by rw [← S.out];omega,_,rfl,by rw [← S.out];simpa using T⟩)⟩
  · have e1:(p.k == 1)=false:=by simp [E]
    have a5:=hid E;clear E
    by_cases G:p.k=2
    · have e2:(p.k == 2)=true:=by simp [G]
      have HK:=hid G;clear G;have hwb:IntKind.u64.wrap (p.b.length:Int)=(p.b.length:Int):=wrap64 _ (by omega)
      go_in
      go_wp2_with fail
      have aL:=hid (show Qq (w0.alloc (.cells #[.int .u8 1] 5)).drew base (.slice ov l.length cv) l from HO.out.alloc _);have aM:=hid (show Bytes (w0.alloc (.cells #[.int .u8 1] 5)).drew (w0.heap.size+1) (.slice (some ⟨w.heap.size+1,0,none⟩) 1 1) [1] by rw [← aK];exact (ZS w0 [1] 5 (0,0) 1 (by simp)).drewN 1)
      have aN:=hid (show l.length+[(1:BitVec 8)].length≤140737488355328 by simp;omega)
      have aA:=hid (show base≤((w0.alloc (.cells #[.int .u8 1] 5)).drew).heap.size by show base≤(w0.alloc (.cells #[.int .u8 1] 5)).heap.size;simp;omega)
      have aO:=hid (show Row ((w0.alloc (.cells #[.int .u8 1] 5)).drew) w.heap.size 184 [Bb p.k,.int .u64 (p.n:Int),.slice ob p.b.length cb] from (aZ.out.alloc _));obtain ⟨l1,q⟩:∃ l1,l ++ [1]=l1:=⟨_,rfl⟩;obtain ⟨l2,z⟩:∃ l2,l1 ++ Zb p.b.length=l2:=⟨_,rfl⟩;have aS:=hid q;have aT:=hid z;have L:l1.length≤1000000:=by rw [← q];simp;omega
      have M:l2 ++ p.b=l ++ p.wr:=by rw [← z,← q];simp [Pc.wr,HK.out]
      have aE:l2.length≤1000000:=by have:=Q4 p.b.length (by omega);rw [← z,← q];simp;omega
      have S:=hid M;have aU:=hid L;have a7:=hid (show p.b.length<18446744073709551616 by omega)
      clear q z M L
      go_region_law (first
        | (refine QbR rfl (.tmp 19) (.tmp 20) rfl base (.slice ov l.length cv) l ?_ aL.out (.slice (some ⟨w.heap.size+1,0,none⟩) 1 1) [1] ?_ aM.out aN.out aA.out ?_;rfl;rfl;intro v1 w1 d C m;rw [aS.out] at d;obtain ⟨o1,k1,rfl,E⟩:=d.shape;have aG:=hid (m.row aO.out (by decide));have c2':=aG.out.cell 2;have aV:=hid d;have A:=hid C;have aJ:=hid m;clear d C m)
        | (go_simp;go_at_call 156;refine (ZR p.b.length l1 (.slice o1 l1.length k1) base w1 a7.out (Bh aA.out A.out.size) aV.out aU.out).mono ?_;rintro e w2 ⟨v2,rfl,j,D,I⟩;rw [aT.out] at j;obtain ⟨o2,k2,rfl,G⟩:=j.shape;have aW:=hid j;have aB:=hid (A.out.trans D);have a8:=hid (I.row aG.out (by decide));have c2'':=a8.out.cell 2;clear j D I))
      all_goals
        have aa:=QmE l2.length aE;have aI:=hid (((Bi base w0).alloc (show base≤w0.heap.size by omega) (.cells #[.int .u8 1] 5)).drew.trans aB.out)
        have O:=hid ((aP.out.mono hb).trans aI.out);have a3:=hid (a9.out.below (aI.out.mono hN))
        by_cases aD:20000<l2.length+p.b.length
        · have e3:decide ((20000:Int)-(l2.length:Int)<(p.b.length:Int))=true:=by simp;omega
          go_wp2;go_ret2;exact ⟨O.out,.inr (.inl ⟨.inr HK.out,by rw [← S.out,Bs];exact aD,rfl⟩)⟩
        · have e3:decide ((20000:Int)-(l2.length:Int)<(p.b.length:Int))=false:=by simp;omega
          have aQ:=hid (show l2.length+p.b.length≤140737488355328 by omega)
          have aR:=hid (show base≤w2.heap.size from Bh hb O.out.size)
          go_wp2_with (at_builtin;refine JR rfl (.tmp 35) (.tmp 36) rfl base _ l2 rfl aW.out _ p.b rfl a3.out aQ.out aR.out ?_;intro v3 w3 T aC a4)
          go_ret2;exact ⟨O.out.trans aC,.inr (.inr ⟨.inr HK.out,by rw [← S.out,Bs];omega,_,rfl,by rw [← S.out];exact T⟩)⟩
    · have e2:(p.k == 2)=false:=by simp [G]
      have a6:=hid G;clear G
      go_in
      go_wp2;go_ret2;exact ⟨aP.out.mono hb,.inl ⟨by rintro (h | h);exact a5.out h;exact a6.out h,rfl⟩⟩
theorem QqI (k:Nat) (m:Bg) (l:List Pc) (p:Pc) (h:l[k]?=some p):QdB k m (l.drop k) =
    if p.k≠1∧p.k≠2 then .error (1,k) else if 20000<(m ++ p.wr).length then .error (4,k) else QdB (k+1) (m ++ p.wr) (l.drop (k+1)):=by
  obtain ⟨hk,he⟩:=Bm.1 h;rw [Cs hk,QdB,he]
theorem Qq.set2 {base:Nat} (h:Qq w base v l) (hg:g<base) (x y:Value):Qq ((w.setCell ⟨g,0,none⟩ x).setCell ⟨g,1,none⟩ y) base v l :=
  h.keep fun k hk=>by rw [Ci _ _ _ _ (show k≠g by omega),Ci _ _ _ _ (show k≠g by omega)]
theorem Qdw (l:List Pc) (sv:Value) (N:Nat) (w:World) (hb:JC w N sv l) (hN:N≤w.heap.size) (hlen:l.length<2305843009213693952) (S:∀ p∈l,p.fits) :
    Calls prog 121 #[sv] w fun e w'=>Bd w w' ∧
      ((∃ x v,YB l=.ok x∧e=.returned (.tuple #[v,okV])∧Qq w' w.heap.size v x) ∨
       ∃ c i,YB l=.error (c,i)∧e=.returned (.tuple #[Bc,Qea c i])):=by
  obtain ⟨oa,ca,rfl,hca⟩:=hb.shape;obtain ⟨w0,M⟩:∃ w0,w.alloc (.cells #[Bb 0,Bb 0] 180)=w0:=⟨_,rfl⟩;have hsz0:w0.heap.size=w.heap.size+1:=by rw [← M];simp
  have aB:=bof M;have E:Row w0 w.heap.size 180 [Bb 0,Bb 0]:=by rw [← M];exact Row.new _ _ _
  have HB:=hid (hb.below (aB.mono hN));have G:=hid aB;have z:=hid E;have aI:=hid S;clear hb aB E S;generalize hn:l.length=n at *;have HN:=hid hn;clear hn
  by_cases A:200<n
  · have e1:decide ((200:Int)<(n:Int))=true:=by simp;omega
    obtain ⟨c0,c1,z0,z1⟩:=z.out.two
    go_in
    go_wp2;obtain ⟨d0,d1⟩:=z.out.set2 (Bb 5) (Bb 0);refine BK (v:=.tuple #[Bc,Qea 5 0]) (by simp [results,results121,go_sem,d0,d1,Qea]) rfl ⟨?_,.inr ⟨5,0,by unfold YB;rw [HN.out,if_pos A],rfl⟩⟩
    exact QbV G.out (Bj _) _ _
  · have e1:decide ((200:Int)<(n:Int))=false:=by simp;omega
    have hwn:IntKind.u64.wrap (n:Int)=(n:Int):=wrap64 _ (by omega)
    have aF:=hid (ZR n [] (Bc) w0.heap.size w0 (by omega) (Bj _) (Qq.nil _ _) (by simp))
    go_in
    go_wp2_with fail
    refine aF.out.mono ?_;rintro e w1 ⟨v1,rfl,C,aK,_⟩;have HS:=hid (show Qq w1 w0.heap.size v1 (Zb n)∧Bd w0 w1 from ⟨C,aK⟩);clear C aK aF M
    go_wp2_with fail
    go_loopw [4,18] (fun y i wr=>∃ (k:Nat) (m:Bg),k≤n∧m.length≤20000∧i=Bb (k:Int)∧Hid (Qq wr w0.heap.size y m∧Bd w0 wr∧YB l=QdB k m (l.drop k))) (fun _ i _=>n-(intOf i).toNat)
    case atStart=>exact ⟨0,Zb n,by omega,by have:=Q4 n (by omega);omega,rfl,HS.out.1,HS.out.2,by unfold YB;rw [HN.out,if_neg A];rfl⟩
    case round =>
      obtain ⟨k,m,hk,hm,rfl,HR⟩:=hrel;obtain ⟨oy,cy,rfl,hcy⟩:=HR.out.1.shape
      by_cases aP:k<n
      · obtain ⟨p,hp⟩:∃ p,l[k]?=some p:=⟨l[k]'(by rw [HN.out];exact aP),Bk _⟩
        obtain ⟨b,o,rfl,q⟩:=HB.out.some (by omega)
        obtain ⟨hbN,vb,d0,d1,d2,aE⟩:=q k p hp;obtain ⟨ob,cb,rfl,hcb⟩:=aE.shape;have aC:b<w0.heap.size:=by omega
        have f0:=(HR.out.2.1.cell (p:=⟨b,o+k*3,none⟩) aC).trans d0;have f1:=(HR.out.2.1.cell (p:=⟨b,o+k*3+1,none⟩) aC).trans d1;have f2:=(HR.out.2.1.cell (p:=⟨b,o+k*3+2,none⟩) aC).trans d2;have T:=HR.out.2.1.size;have aD:=aI.out p (Bn hp);have aN:=hid (aE.below (HR.out.2.1.mono (show N≤w0.heap.size by omega)))
        have aA:=hid (QqI k m l p hp);obtain ⟨w2,O⟩:∃ w2,wr.alloc (.cells #[Bb p.k,.int .u64 (p.n:Int),.slice ob p.b.length cb] 184)=w2:=⟨_,rfl⟩;have I:Below w0.heap.size wr w2:=by rw [← O];exact (Bi _ _).alloc T _
        have D:Qq w2 w0.heap.size (.slice oy m.length cy) m:=by rw [← O];exact HR.out.1.alloc _
        have aG:=hid (Qgn p m (.slice oy m.length cy) (.slice ob p.b.length cb) w0.heap.size N w2 (Bh T I.size) D hm aD.1 (aN.out.below (I.mono (by omega))) (by omega) aD.2)
        have Y:=hid (HR.out.2.1.trans I);have aO:=hid O;unfold pcV at aG;clear d0 d1 d2 aE q I D aD hp O;have hlt':(k:Int)<(n:Int):=by omega
        go_wp2_with fail
        rw [aO.out];refine aG.out.mono ?_;rintro e w3 ⟨L,⟨aL,rfl⟩ | ⟨aL,hbig,rfl⟩ | ⟨aL,hsm,v',rfl,hown3⟩⟩
        · have j:=hid (Y.out.trans L)
          have d:=hid (z.out.below j.out (by omega))
          obtain ⟨c0,c1,z0,z1⟩:=d.out.two;go_wp2;obtain ⟨d0,d1⟩:=d.out.set2 (Bb 1) (Bb (k:Int));refine BK (v:=.tuple #[Bc,Qea 1 k]) (by simp [results,results121,go_sem,d0,d1,Qea]) rfl ⟨?_,.inr ⟨1,k,by rw [HR.out.2.2,aA.out,if_pos (by omega)],rfl⟩⟩
          exact QbV (G.out.trans (j.out.mono (by omega))) (Bj _) _ _
        · have j:=hid (Y.out.trans L)
          have d:=hid (z.out.below j.out (by omega))
          obtain ⟨c0,c1,z0,z1⟩:=d.out.two;have aH:=hid hbig;clear hbig;go_wp2;obtain ⟨d0,d1⟩:=d.out.set2 (Bb 4) (Bb (k:Int));refine BK (v:=.tuple #[Bc,Qea 4 k]) (by simp [results,results121,go_sem,d0,d1,Qea]) rfl ⟨?_,.inr ⟨4,k,by rw [HR.out.2.2,aA.out,if_neg (by omega),if_pos aH.out],rfl⟩⟩
          exact QbV (G.out.trans (j.out.mono (by omega))) (Bj _) _ _
        · have j:=hid (Y.out.trans L)
          have aM:=hid hown3;have aJ:=hid hsm;clear hown3 L hsm
          go_wp2_with fail
          refine ⟨⟨k+1,m ++ p.wr,by omega,aJ.out,by go_num,aM.out,j.out,?_⟩,by simp [intOf];omega⟩
          rw [HR.out.2.2,aA.out,if_neg (by omega),if_neg (by have:=aJ.out;omega)]
      · have hge:decide ((k:Int)<(n:Int))=false:=by simp;omega
        have d:=hid (z.out.below HR.out.2.1 (by omega))
        obtain ⟨c0,c1,z0,z1⟩:=d.out.two;go_wp2;obtain ⟨d0,d1⟩:=d.out.set2 (Bb 0) (Bb 0);refine BK (v:=.tuple #[.slice oy m.length cy,okV]) (by simp [results,results121,go_sem,d0,d1,okV]) rfl ⟨?_,.inl ⟨m,_,by rw [HR.out.2.2,CK (by rw [HN.out];omega),QdB],rfl,?_⟩⟩
        · exact QbV (G.out.trans (HR.out.2.1.mono (by omega))) (Bj _) _ _
        · exact (Qq.set2 HR.out.1 (show w.heap.size<w0.heap.size by omega) _ _).mono (by omega)
end Go.Proofs.YtnedafiokmjkkaaGreatDoor
