/- Plain mathematics of pieces written as bytes. -/
import Derived.Test.YtnedafiokmjkkaaGreatDoorsaMemB
import Derived.OwnWalk
import Derived.Deep.RegionHeld3
import Derived.Deep.RegionWith
import Derived.Laws.Cover3
import Derived.Deep.RegionHeldLaw
namespace Go.Proofs.YtnedafiokmjkkaaGreatDoor
open Tryz
variable {B N g n:Nat} {l:List (BitVec 8)} {w w':World} {t:TypeId} {sv v v4:Value} {oa:Option Addr} {xs:List Value} {o:Oper} {a:Act} {Q:Exit→Act→World→Prop}
set_option maxRecDepth 1000000
set_option maxHeartbeats 8000000
def QkT:Nat→Nat→Bg
  | 0,n=>[BitVec.ofNat 8 n]
  | f+1,n=>if n<128 then [BitVec.ofNat 8 n] else BitVec.ofNat 8 (128+n % 128) :: QkT f (n / 128)
def Zk (n:Nat):Bg:=QkT n n
theorem Qa9 (f:Nat) (h:n<128):QkT f n=[BitVec.ofNat 8 n]:=by
  cases f with
  | zero=>rfl
  | succ f=>rw [QkT,if_pos h]
theorem Qsu: ∀ (f f' n:Nat),n≤f→n≤f'→QkT f n=QkT f' n:=by
  intro f
  induction f with
  | zero=>intro f' n h _;rw [Qa9 0 (by omega),Qa9 f' (by omega)]
  | succ f ih =>
    intro f' n h h'
    by_cases hs:n<128
    · rw [Qa9 _ hs,Qa9 _ hs]
    · cases f' with
      | zero=>omega
      | succ f'=>rw [QkT,QkT,if_neg hs,if_neg hs,ih f' (n / 128) (by omega) (by omega)]
theorem Qa8 (h:n<128):Zk n=[BitVec.ofNat 8 n]:=Qa9 n h
theorem Qc6 (h:128≤n):Zk n=BitVec.ofNat 8 (128+n % 128) :: Zk (n / 128):=by
  unfold Zk;obtain ⟨m,rfl⟩:∃ m,n=m+1:=⟨n-1,by omega⟩
  rw [QkT,if_neg (by omega),Qsu m ((m+1) / 128) _ (by omega) (Bj _)]
theorem Qc7: ∀ (k n:Nat),n<128 ^ k→0<k→(Zk n).length≤k:=by
  intro k
  induction k with
  | zero=>intro n _ h;omega
  | succ k ih =>
    intro n h _
    by_cases hs:n<128
    · rw [Qa8 hs];simp
    · rw [Qc6 (by omega)]
      have hk:0<k:=by
        rcases Nat.eq_zero_or_pos k with rfl | h'
        · simp at h;omega
        · exact h'
      have h2:n / 128<128 ^ k:=by
        rw [DG] at h;exact Nat.div_lt_of_lt_mul (by rw [Cz];exact h)
      have:=ih (n / 128) h2 hk;simp;omega
theorem Q4 (n:Nat) (h:n<18446744073709551616):(Zk n).length≤10:=Qc7 10 n (by simp;omega) (by omega)
def Qeg:Nat→Nat→Bg→Option (Nat×Bg)
  | _,_,[]=>none
  | i,n,x :: r =>
    if i=9∧1<x.toNat then none
    else if 128≤x.toNat then Qeg (i+1) (n+x.toNat % 128*128 ^ i) r
    else if x.toNat=0∧0<i then none
    else some (n+x.toNat % 128*128 ^ i,r)
def QcI (l:Bg):Option (Nat×Bg):=Qeg 0 0 l
theorem QrH: ∀ (k i a n:Nat) (r:Bg),n<k→i≤9→n*128 ^ i<18446744073709551616→(0<i→0<n)→Qeg i a (Zk n ++ r)=some (a+n*128 ^ i,r):=by
  intro k
  induction k with
  | zero=>intro i a n r h;omega
  | succ k ih =>
    intro i a n r hk hi m hp;have h9:i=9→n≤1:=by rintro rfl;simp at m;omega
    by_cases hs:n<128
    · rw [Qa8 hs]
      have e:(BitVec.ofNat 8 n).toNat=n:=by simp;omega
      show Qeg i a (BitVec.ofNat 8 n :: r)=_
      rw [Qeg,e,if_neg (by rintro ⟨h,h'⟩;have:=h9 h;omega),if_neg (by omega),if_neg (by rintro ⟨h,h'⟩;have:=hp h';omega),Cv hs]
    · rw [Qc6 (by omega)]
      have e:(BitVec.ofNat 8 (128+n % 128)).toNat=128+n % 128:=by simp;omega
      show Qeg i a (BitVec.ofNat 8 (128+n % 128) :: (Zk (n / 128) ++ r))=_
      have j:i≠9:=fun h=>by have:=h9 h;omega
      have b:n / 128*128 ^ (i+1)+n % 128*128 ^ i=n*128 ^ i:=by
        rw [DG,Cz (128 ^ i) 128,← D1,← C0]
        congr 1;omega
      rw [Qeg,e,if_neg (by rintro ⟨h,_⟩;exact j h),if_pos (by omega),ih (i+1) _ (n / 128) r (by omega) (by omega) (by omega) (fun _=>by omega)]
      have:(128+n % 128) % 128=n % 128:=by omega
      rw [this,Dl,Nat.add_comm (n % 128*128 ^ i),b]
theorem Qhi (n:Nat) (r:Bg) (h:n<18446744073709551616):QcI (Zk n ++ r)=some (n,r):=by
  unfold QcI;rw [QrH (n+1) 0 0 n r (by omega) (by omega) (by simpa using h) (by omega)]
  simp
theorem Qe5 (x:BitVec 8) (n:Nat) (h:x.toNat=n):BitVec.ofNat 8 n=x:=by subst h;simp
theorem QpN: ∀ (l:Bg) (i a m:Nat) (r:Bg),Qeg i a l=some (m,r)→i≤9→∃ n,l=Zk n ++ r∧m=a+n*128 ^ i∧(0<i→0<n)∧n*128 ^ i<18446744073709551616:=by
  intro l
  induction l with
  | nil=>intro i a m r h;simp [Qeg] at h
  | cons x l ih =>
    intro i a m r h hi;rw [Qeg] at h
    by_cases h1:i=9∧1<x.toNat
    · rw [if_pos h1] at h;cases h
    rw [if_neg h1] at h
    by_cases h2:128≤x.toNat
    · rw [if_pos h2] at h
      have q:i≠9:=fun e=>h1 ⟨e,by omega⟩
      obtain ⟨n,rfl,rfl,hp,j⟩:=ih _ _ _ _ h (by omega)
      have b:n*128 ^ (i+1)+x.toNat % 128*128 ^ i=(n*128+x.toNat % 128)*128 ^ i:=by
        rw [DG,C0,Cz (128 ^ i) 128,← D1]
      refine ⟨n*128+x.toNat % 128,?_,?_,fun _=>by omega,?_⟩
      · rw [Qc6 (n:=n*128+x.toNat % 128) (by omega)]
        rw [show (n*128+x.toNat % 128) / 128=n by omega,Qe5 x _ (by omega)]
        rfl
      · rw [← b];omega
      · have hb:i≤8:=by omega
        have hlow:x.toNat % 128*128 ^ i+128 ^ i≤128 ^ (i+1):=by
          rw [DG,Cz (128 ^ i) 128,← BJ];exact Ct _ (by omega)
        rw [← b]
        obtain ⟨e,he⟩:∃ e,18446744073709551616=e*128 ^ (i+1)∨(i=9):=by
          refine ⟨2 ^ (64-7*(i+1)),?_⟩;have hc:i=0∨i=1∨i=2∨i=3∨i=4∨i=5∨i=6∨i=7∨i=8:=by omega
          rcases hc with rfl | rfl | rfl | rfl | rfl | rfl | rfl | rfl | rfl <;> decide
        rcases he with he | he
        · rw [he] at j ⊢
          have z:n<e:=Nat.lt_of_mul_lt_mul_right j;have:(n+1)*128 ^ (i+1)≤e*128 ^ (i+1):=Ct _ z;rw [BJ] at this;omega
        · exact absurd he q
    · rw [if_neg h2] at h
      by_cases h3:x.toNat=0∧0<i
      · rw [if_pos h3] at h;cases h
      rw [if_neg h3] at h;obtain ⟨rfl,rfl⟩:a+x.toNat % 128*128 ^ i=m∧l=r:=by simpa using h
      rw [Cv (show x.toNat<128 by omega)]
      refine ⟨x.toNat,?_,rfl,fun h0=>?_,?_⟩
      · rw [Qa8 (by omega),Qe5 x _ rfl];rfl
      · rcases Nat.eq_zero_or_pos x.toNat with e | e
        · exact absurd ⟨e,h0⟩ h3
        · exact e
      · by_cases e:i=9
        · subst e
          simp;omega
        · have h8:128 ^ i≤128 ^ 8:=Nat.pow_le_pow_right (by omega) (by omega)
          have:x.toNat*128 ^ i≤127*128 ^ 8:=CK (by omega) h8
          simp at this ⊢;omega
theorem QbO {r:Bg} {m:Nat} (h:QcI l=some (m,r)):l=Zk m ++ r∧m<18446744073709551616:=by
  obtain ⟨n,h1,h2,_,h4⟩:=QpN l 0 0 m r h (by omega)
  simp at h2 h4;subst h2;exact ⟨h1,h4⟩
structure Pc where
  k:Int
  n:Nat
  b:Bg
def Pc.norm (p:Pc):Pc:=if p.k=1 then ⟨1,p.n,[]⟩ else if p.k=2 then ⟨2,0,p.b⟩ else ⟨p.k,0,[]⟩
def Pc.wr (p:Pc):Bg:=if p.k=1 then 0 :: Zk p.n else 1 :: (Zk p.b.length ++ p.b)
def Pc.ok (p:Pc):Prop:=p.n<18446744073709551616
def QdJ (i:Nat) (out:Bg):List Pc→Except (Int×Nat) Bg
  | []=>.ok out
  | p :: r=>if p.k≠1∧p.k≠2 then .error (1,i) else if 20000<(out ++ p.wr).length then .error (4,i) else QdJ (i+1) (out ++ p.wr) r
def YC (l:List Pc):Except (Int×Nat) Bg:=if 200<l.length then .error (5,0) else QdJ 0 (Zk l.length) l
def Qbf:Bg→Option (Pc×Bg)
  | []=>none
  | x :: r=>if 1<x.toNat then none else
    match QcI r with
    | none=>none
    | some (n,r')=>if x.toNat=0 then some (⟨1,n,[]⟩,r') else if r'.length<n then none else some (⟨2,0,r'.take n⟩,r'.drop n)
def QbV:Nat→List Pc→Bg→Option (List Pc)
  | 0,acc,b=>if b.length=0 then some acc else none
  | c+1,acc,b=>match Qbf b with
    | none=>none
    | some (p,r)=>QbV c (acc ++ [p]) r
def ZL (b:Bg):Except Int (List Pc) :=
  if 20000<b.length then .error 4 else
  match QcI b with
  | none=>.error 2
  | some (n,r)=>if 200<n then .error 2 else
    match QbV n [] r with
    | none=>.error 2
    | some l=>.ok l
theorem Pc.norm_k (p:Pc):p.norm.k=p.k:=by
  unfold Pc.norm;split
  · simp_all
  · split <;> simp_all
theorem Pc.norm_wr (p:Pc) (h:p.k=1∨p.k=2):p.norm.wr=p.wr:=by
  rcases h with h | h <;> simp [Pc.norm,Pc.wr,h]
theorem Pc.norm_ok (p:Pc) (h:p.ok):p.norm.ok:=by
  unfold Pc.norm Pc.ok at *;split
  · exact h
  · split <;> simp
theorem Qq6: ∀ (l:List Pc) (i:Nat) (b:Bg),QdJ i b (l.map Pc.norm)=QdJ i b l:=by
  intro l
  induction l with
  | nil=>intro i b;rfl
  | cons p r ih =>
    intro i b;simp only [CG,QdJ,Pc.norm_k]
    by_cases h:p.k≠1∧p.k≠2
    · rw [if_pos h,if_pos h]
    · rw [if_neg h,if_neg h,Pc.norm_wr p (by omega),ih]
theorem Qit (l:List Pc):YC (l.map Pc.norm)=YC l:=by
  unfold YC;rw [Bp,Qq6]
theorem QoN (p:Pc) (r:Bg) (hk:p.k=1∨p.k=2) (hn:p.ok) (hb:p.b.length<18446744073709551616):Qbf (p.wr ++ r)=some (p.norm,r):=by
  rcases hk with h | h
  · have e:p.wr ++ r=0 :: (Zk p.n ++ r):=by simp [Pc.wr,h]
    rw [e];simp [Qbf,Qhi p.n r hn,Pc.norm,h]
  · have e:p.wr ++ r=1 :: (Zk p.b.length ++ (p.b ++ r)):=by simp [Pc.wr,h]
    rw [e];simp [Qbf,Qhi p.b.length (p.b ++ r) hb,Pc.norm,h]
theorem Qjn {r:Bg} {p:Pc} (h:Qbf l=some (p,r)):l=p.wr ++ r∧(p.k=1∨p.k=2)∧p.ok∧p.norm=p:=by
  cases l with
  | nil=>simp [Qbf] at h
  | cons x l =>
    rw [Qbf] at h
    by_cases h1:1<x.toNat
    · rw [if_pos h1] at h;cases h
    rw [if_neg h1] at h
    cases hc:QcI l with
    | none=>rw [hc] at h;cases h
    | some y =>
      obtain ⟨n,r'⟩:=y;rw [hc] at h;obtain ⟨rfl,hn⟩:=QbO hc;simp only at h
      by_cases h0:x.toNat=0
      · rw [if_pos h0] at h
        obtain ⟨rfl,rfl⟩:(⟨1,n,[]⟩:Pc)=p∧r'=r:=by simpa using h
        have hx:x=0:=DA (by simpa using h0)
        subst hx;exact ⟨by simp [Pc.wr],.inl rfl,hn,rfl⟩
      · rw [if_neg h0] at h
        by_cases h2:r'.length<n
        · rw [if_pos h2] at h;cases h
        · rw [if_neg h2] at h
          obtain ⟨rfl,rfl⟩:(⟨2,0,r'.take n⟩:Pc)=p∧r'.drop n=r:=by simpa using h
          have hx:x=1:=DA (by simp;omega)
          subst hx;have hl:(r'.take n).length=n:=by simp;omega
          refine ⟨?_,.inr rfl,by simp [Pc.ok],rfl⟩
          unfold Pc.wr;rw [if_neg (by simp)]
          simp only [hl,By,Cj,CS]
def wrs (l:List Pc):Bg:=(l.map Pc.wr).flatten
theorem Qph: ∀ (l:List Pc) (i:Nat) (b x:Bg),QdJ i b l=.ok x→x=b ++ wrs l∧(∀ p∈l,p.k=1∨p.k=2)∧(b.length≤20000→x.length≤20000):=by
  intro l
  induction l with
  | nil=>intro i b x h;simp [QdJ] at h;subst h;simp [wrs]
  | cons p r ih =>
    intro i b x h;rw [QdJ] at h
    by_cases h1:p.k≠1∧p.k≠2
    · rw [if_pos h1] at h;cases h
    rw [if_neg h1] at h
    by_cases h2:20000<(b ++ p.wr).length
    · rw [if_pos h2] at h;cases h
    rw [if_neg h2] at h;obtain ⟨e1,e2,e3⟩:=ih _ _ _ h;refine ⟨by rw [e1];simp [wrs],?_,fun _=>e3 (by omega)⟩
    intro q hq
    rcases Bo.1 hq with rfl | hq
    · omega
    · exact e2 q hq
theorem Qfv: ∀ (l:List Pc) (i:Nat) (b:Bg),(∀ p∈l,p.k=1∨p.k=2)→(b ++ wrs l).length≤20000→QdJ i b l=.ok (b ++ wrs l):=by
  intro l
  induction l with
  | nil=>intro i b _ _;simp [QdJ,wrs]
  | cons p r ih =>
    intro i b hk hl;have e:b ++ wrs (p :: r)=(b ++ p.wr) ++ wrs r:=by simp [wrs]
    rw [e] at hl ⊢;have hp:=hk p (by simp)
    rw [QdJ,if_neg (by omega),if_neg (by rw [Br] at hl;omega),ih _ _ (fun q hq=>hk q (by simp [hq])) hl]
theorem Quu: ∀ (l j:List Pc),(∀ p∈l,p.k=1∨p.k=2)→(∀ p∈l,p.ok)→(∀ p∈l,p.b.length<18446744073709551616∨p.k=1)→QbV l.length j (wrs l)=some (j ++ l.map Pc.norm):=by
  intro l
  induction l with
  | nil=>intro j _ _ _;simp [QbV,wrs]
  | cons p r ih =>
    intro j hk ho hb;have e:wrs (p :: r)=p.wr ++ wrs r:=by simp [wrs]
    have z:Qbf (p.wr ++ wrs r)=some (p.norm,wrs r):=by
      have m:=hk p (by simp)
      rcases hb p (by simp) with h | h
      · exact QoN p _ m (ho p (by simp)) h
      · have hw:p.wr=p.norm.wr:=(Pc.norm_wr p m).symm
        have A:p.norm.norm=p.norm:=by simp [Pc.norm,h]
        rw [hw,QoN p.norm _ (by rw [Pc.norm_k];exact m) (Pc.norm_ok p (ho p (by simp))) (by simp [Pc.norm,h]),A]
    rw [e,Cy,QbV,z];simp only;rw [ih _ (fun q hq=>hk q (by simp [hq])) (fun q hq=>ho q (by simp [hq])) (fun q hq=>hb q (by simp [hq]))]
    simp
theorem QqI: ∀ (c:Nat) (e m:List Pc) (b:Bg),QbV c e b=some m→∃ l,m=e ++ l∧l.length=c∧b=wrs l∧(∀ p∈l,(p.k=1∨p.k=2)∧p.ok∧p.norm=p):=by
  intro c
  induction c with
  | zero =>
    intro e m b h;rw [QbV] at h
    by_cases h0:b.length=0
    · rw [if_pos h0] at h
      obtain rfl:e=m:=by simpa using h
      exact ⟨[],by simp,rfl,by simpa [wrs] using h0,by simp⟩
    · rw [if_neg h0] at h;cases h
  | succ c ih =>
    intro e m b h;rw [QbV] at h
    cases hc:Qbf b with
    | none=>rw [hc] at h;cases h
    | some y =>
      obtain ⟨p,r⟩:=y;rw [hc] at h;obtain ⟨rfl,h2⟩:=Qjn hc;obtain ⟨l,rfl,h3,rfl,h4⟩:=ih _ _ _ h;refine ⟨p :: l,by simp,by simp [h3],by simp [wrs],?_⟩
      intro q hq
      rcases Bo.1 hq with rfl | hq
      · exact h2
      · exact h4 q hq
theorem Qul (l:List Pc) (p:Pc) (h:p∈l) (hk:p.k=2):p.b.length≤(wrs l).length:=by
  induction l with
  | nil=>simp at h
  | cons q r ih =>
    have e:wrs (q :: r)=q.wr ++ wrs r:=by simp [wrs]
    rw [e,Br]
    rcases Bo.1 h with rfl | h
    · have:p.b.length≤p.wr.length:=by simp [Pc.wr,hk];omega
      omega
    · have:=ih h;omega
theorem QuW (l:List Pc) (x:Bg) (ho:∀ p∈l,p.ok) (h:YC l=.ok x):ZL x=.ok (l.map Pc.norm):=by
  unfold YC at h
  by_cases h2:200<l.length
  · rw [if_pos h2] at h;cases h
  rw [if_neg h2] at h;obtain ⟨rfl,hk,b⟩:=Qph _ _ _ _ h;have hn:=Qc7 10 l.length (by simp;omega) (by omega)
  have hl:=b (by omega)
  unfold ZL;rw [if_neg (by omega),Qhi l.length _ (by omega)]
  simp only;rw [if_neg h2,Quu l [] hk ho]
  · simp
  · intro p hp
    rcases hk p hp with h1 | h1
    · exact .inr h1
    · left
      have:=Qul l p hp h1;rw [Br] at hl;omega
theorem Qu2 (b:Bg) (m:List Pc) (h:ZL b=.ok m):YC m=.ok b∧m.length≤200∧(∀ p∈m,p.ok∧p.norm=p):=by
  unfold ZL at h
  by_cases h1:20000<b.length
  · rw [if_pos h1] at h;cases h
  rw [if_neg h1] at h
  cases hc:QcI b with
  | none=>rw [hc] at h;cases h
  | some y =>
    obtain ⟨n,r⟩:=y;rw [hc] at h;simp only at h
    by_cases h2:200<n
    · rw [if_pos h2] at h;cases h
    rw [if_neg h2] at h
    cases hg:QbV n [] r with
    | none=>rw [hg] at h;cases h
    | some l =>
      rw [hg] at h;obtain rfl:l=m:=by simpa using h
      obtain ⟨rfl,_⟩:=QbO hc;obtain ⟨l',h3,rfl,rfl,h4⟩:=QqI _ _ _ _ hg;rw [Bv] at h3;subst h3;refine ⟨?_,by omega,fun p hp=>(h4 p hp).2⟩
      unfold YC;rw [if_neg h2,Qfv _ _ _ (fun p hp=>(h4 p hp).1) (by omega)]
theorem Qvy (l m:List Pc) (a b:Bg) (hl:∀ p∈l,p.ok) (hm:∀ p∈m,p.ok) (h1:YC l=.ok a) (h2:YC m=.ok b):a=b↔l.map Pc.norm=m.map Pc.norm:=by
  constructor
  · rintro rfl
    have e1:=QuW l a hl h1;have e2:=QuW m a hm h2;rw [e1] at e2;simpa using e2
  · intro h
    rw [← Qit,h,Qit,h2] at h1;simpa using h1.symm
open Go.RowKit
theorem QpP (l:Bg) (k:Nat) (h:k<l.length):l.drop k=l.getD k 0 :: l.drop (k+1):=by
  rw [Cs h];simp [h]
theorem wrap64 (n:Nat) (h:n<18446744073709551616):IntKind.u64.wrap (n:Int)=(n:Int):=by
  simp [IntKind.wrap,IntKind.bits,IntKind.signed];omega
theorem Qsz (m k:Nat) (x:BitVec 8) (hk:k≤9) (hm:m<128 ^ k) (h9:k=9→x.toNat≤1) :
    bits .or .u64 (m:Int) (IntKind.u64.wrap (IntKind.u64.wrap (bits .and .u8 (b8 x) 127)*2 ^ (7*k)))=((m+x.toNat % 128*128 ^ k:Nat):Int)∧m+x.toNat % 128*128 ^ k<18446744073709551616:=by
  have hx:=x.isLt
  have h1:bits .and .u8 (b8 x) 127=((x.toNat % 128:Nat):Int):=by
    unfold b8;rw [show (127:Int)=((127:Nat):Int) from rfl,u8_and_nat _ _ hx (by omega),nat_mask7]
  have hp:(128:Nat) ^ k=2 ^ (7*k):=by rw [show (128:Nat)=2 ^ 7 from rfl,← Nat.pow_mul]
  have hlt:x.toNat % 128*128 ^ k+128 ^ k≤18446744073709551616:=by
    rw [← BJ]
    by_cases h:k=9
    · have:=h9 h
      subst h;have h2:(x.toNat % 128).succ≤2:=by omega
      exact Bh (Ct _ h2) (by decide)
    · have h8:128 ^ k≤128 ^ 8:=Nat.pow_le_pow_right (by omega) (by omega)
      exact Bh (CK (show (x.toNat % 128).succ≤128 by omega) h8) (by decide)
  have h2:IntKind.u64.wrap ((x.toNat % 128:Nat):Int)=((x.toNat % 128:Nat):Int):=wrap64 _ (by omega)
  have h3:IntKind.u64.wrap (((x.toNat % 128:Nat):Int)*2 ^ (7*k))=((x.toNat % 128*128 ^ k:Nat):Int):=by
    rw [show ((x.toNat % 128:Nat):Int)*2 ^ (7*k)=((x.toNat % 128*128 ^ k:Nat):Int) by rw [hp];simp]
    exact wrap64 _ (by omega)
  refine ⟨?_,by omega⟩
  rw [h1,h2,h3,u64_or_nat _ _ (by omega) (by omega)]
  have h4:=Ec (i:=7*k) (show m<2 ^ (7*k) by rw [← hp];exact hm) (x.toNat % 128)
  rw [Nat.or_comm,Cz (x.toNat % 128),hp,← h4,Nat.add_comm]
theorem QdO (l:Bg) (sv:Value) (N:Nat) (w:World) (hb:Bytes w N sv l) (hlen:l.length<2305843009213693952) :
    Calls prog 192 #[sv] w fun e w'=>(∃ q,w'=w.drewN q) ∧
      ((QcI l=none∧e=.returned (.tuple #[.int .u64 0,Bc,.bool false])) ∨
       ∃ (m:Nat) (r:Bg) (v:Value),QcI l=some (m,r)∧e=.returned (.tuple #[.int .u64 (m:Int),v,.bool true])∧Bytes w N v r):=by
  obtain ⟨oa,ca,rfl,hca⟩:=hb.shape;generalize hn:l.length=n at *
  go_in
  go_wp2_with fail
  go_loopw [5,10] (fun y i wr=>∃ k m:Nat,k≤n∧k≤9∧m<128 ^ k∧y=.int .u64 (m:Int)∧i=Bb (k:Int)∧wr=w∧Hid (QcI l=Qeg k m (l.drop k))) (fun _ i _=>n-(intOf i).toNat)
  case atStart=>exact ⟨0,0,by omega,by omega,by simp,rfl,rfl,rfl,rfl⟩
  case round =>
    obtain ⟨k,m,hk,I,hm,rfl,rfl,rfl,HC⟩:=hrel
    by_cases D:k<n
    · have h1:Bytes wr N (.slice oa l.length ca) l:=by rw [hn];exact hb
      obtain ⟨b,o,rfl,c1⟩:=h1.some (by rw [hn];omega)
      have d1:=(c1 k (by rw [hn];exact D)).2
      obtain ⟨x,hx⟩:∃ x,l.getD k 0=x:=⟨_,rfl⟩;rw [hx] at d1;have HD:l.drop k=x :: l.drop (k+1):=by rw [← hx];exact QpP l k (by rw [hn];exact D)
      obtain ⟨vt,L,C⟩:=Qcr hb .i64 (k+1) (by omega)
      rw [show ((k+1:Nat):Int)=(k:Int)+1 by omega] at L
      clear h1 c1 hx
      by_cases h9:k=9∧1<x.toNat
      · obtain ⟨rfl,M⟩:=h9
        have e2:decide ((1:Int)<b8 x)=true:=by unfold b8;simp;omega
        go_wp2_with fail
        go_ret3
        exact ⟨⟨0,rfl⟩,.inl ⟨by rw [HC.out,HD,Qeg,if_pos ⟨rfl,M⟩],rfl⟩⟩
      · obtain ⟨G,E⟩:=Qsz m k x I hm (fun h=>by omega)
        obtain ⟨m',A⟩:∃ m',m+x.toNat % 128*128 ^ k=m':=⟨_,rfl⟩;rw [A] at G E
        have z:=hid (show QcI l=if 128≤x.toNat then Qeg (k+1) m' (l.drop (k+1)) else if x.toNat=0∧0<k then none else some (m',l.drop (k+1)) by
          rw [HC.out,HD,Qeg,if_neg h9,A])
        by_cases h7:128≤x.toNat
        · have e1:((k:Int) == 9)=false:=by simp;omega
          have e2:decide ((128:Int)≤b8 x)=true:=by unfold b8;simp;omega
          go_wp2_with fail
          refine ⟨⟨k+1,m',by omega,by omega,?_,rfl,by go_num,trivial,?_⟩,by simp [intOf];omega⟩
          · have:=hm
            rw [← A,DG];have:x.toNat % 128*128 ^ k+128 ^ k≤128*128 ^ k:=by rw [← BJ];exact Ct _ (by omega)
            omega
          · rw [z.out,if_pos h7];exact hid rfl
        · have e2:decide ((128:Int)≤b8 x)=false:=by unfold b8;simp;omega
          by_cases h0:x.toNat=0∧0<k
          · have e3:(b8 x == 0)=true:=by unfold b8;simp;omega
            have e4:decide ((0:Int)<(k:Int))=true:=by simp;omega
            have e5:decide ((1:Int)<b8 x)=false:=by unfold b8;simp;omega
            go_wp2_with fail
            all_goals go_ret3
            all_goals exact ⟨⟨0,rfl⟩,.inl ⟨by rw [z.out,if_neg h7,if_pos h0],rfl⟩⟩
          · have e4:(b8 x == 0 && decide ((0:Int)<(k:Int)))=false:=by unfold b8;simp;omega
            have j:QcI l=some (m',l.drop (k+1)):=by rw [z.out,if_neg h7,if_neg h0]
            have hkw:IntKind.i64.wrap ((k:Int)+1)=(k:Int)+1:=by simp [IntKind.wrap,IntKind.bits,IntKind.signed];split <;> omega
            by_cases hx0:x.toNat=0
            · have e3:(b8 x == 0)=true:=by unfold b8;simp;omega
              have e1:((k:Int) == 9)=false:=by simp;omega
              have e5:decide ((0:Int)<(k:Int))=false:=by simp;omega
              go_wp2_with fail
              refine Yy (by kernel_rfl) (by kernel_rfl) ?_
              repeat still_step
              refine Cm ?_;go_wp2
              go_ret3
              exact ⟨⟨1,rfl⟩,.inr ⟨m',_,_,j,rfl,C⟩⟩
            · have e3:(b8 x == 0)=false:=by unfold b8;simp;omega
              by_cases hk9':k=9
              · have e5:decide ((1:Int)<b8 x)=false:=by unfold b8;simp;omega
                have e1:((k:Int) == 9)=true:=by simp;omega
                clear hk9'
                go_wp2_with fail
                refine Yy (by kernel_rfl) (by kernel_rfl) ?_
                repeat still_step
                refine Cm ?_;go_wp2
                go_ret3
                exact ⟨⟨1,rfl⟩,.inr ⟨m',_,_,j,rfl,C⟩⟩
              · have e1:((k:Int) == 9)=false:=by simp;omega
                go_wp2_with fail
                refine Yy (by kernel_rfl) (by kernel_rfl) ?_
                repeat still_step
                refine Cm ?_;go_wp2
                go_ret3
                exact ⟨⟨1,rfl⟩,.inr ⟨m',_,_,j,rfl,C⟩⟩
    · have hge:decide ((k:Int)<(n:Int))=false:=by simp;omega
      go_wp2_with fail
      go_ret3
      exact ⟨⟨0,rfl⟩,.inl ⟨by rw [HC.out,CI (by rw [hn];omega),Qeg],rfl⟩⟩
theorem QtR (k:Nat) (hk:k<18446744073709551616):bits .and .u64 (k:Int) 127=((k % 128:Nat):Int):=by
  rw [show (127:Int)=((127:Nat):Int) from rfl,u64_and_nat _ _ hk (by omega),nat_mask7]
theorem Quq (k:Nat) (hk:k<18446744073709551616):bits .or .u8 (bits .and .u64 (k:Int) 127 % 256) 128=b8 (BitVec.ofNat 8 (128+k % 128)):=by
  have h1:k % 128<128:=CQ _ (by omega)
  rw [QtR k hk,show (((k % 128:Nat):Int)) % 256=((k % 128:Nat):Int) by omega,show (128:Int)=((128:Nat):Int) from rfl,u8_or_nat _ _ (by omega) (by omega),Nat.or_comm]
  have:=Ec (i:=7) (show k % 128<2 ^ 7 by omega) 1
  rw [show (2:Nat) ^ 7*1=128 from rfl] at this;rw [← this];unfold b8;simp;omega
theorem ZX (n:Nat) (l:Bg) (v:Value) (base:Nat) (w:World) (hn:n<18446744073709551616) (hb:base≤w.heap.size) (A:Qq w base v l) (hl:l.length≤1000000) :
    Calls prog 156 #[v,.int .u64 (n:Int)] w fun e w'=>∃ v',e=.returned v'∧Qq w' base v' (l ++ Zk n)∧Below base w w'∧Jm w w':=by
  go_in
  go_wp2_with fail
  go_loopw [0,1] (fun x y wr=>∃ (k:Nat) (m:Bg),y=.int .u64 (k:Int)∧k<18446744073709551616∧Hid (Qq wr base x m∧Below base w wr∧l ++ Zk n=m ++ Zk k∧Jm w wr)) (fun _ y _=>(intOf y).toNat)
  case atStart=>exact ⟨n,l,rfl,hn,A,Bi _ _,rfl,Jm.refl _⟩
  case round =>
    obtain ⟨k,m,rfl,hk,HR⟩:=hrel
    have hm:m.length≤1000020:=by
      have h1:=Bl List.length HR.out.2.2.1;have h2:=Q4 n hn;simp at h1;omega
    have hs:base≤wr.heap.size:=Bh hb HR.out.2.1.size
    by_cases z:k<128
    · have C:decide ((127:Int)<(k:Int))=false:=by simp;omega
      have hy:=hid (show (k:Int)=b8 (BitVec.ofNat 8 k) by unfold b8;simp;omega)
      go_wp2_with (at_builtin;refine Qby rfl (.tmp 16) (.tmp 19) rfl base _ m rfl HR.out.1 _ _ hy.out rfl (by omega) hs ?_;intro v' w1 b j q)
      go_ret;exact ⟨_,rfl,by rw [HR.out.2.2.1,Qa8 z];exact b,HR.out.2.1.trans j,HR.out.2.2.2.trans q⟩
    · have C:decide ((127:Int)<(k:Int))=true:=by simp;omega
      have hy:bits .or .u8 (bits .and .u64 (k:Int) 127 % 256) 128=b8 (BitVec.ofNat 8 (128+k % 128)):=Quq k hk
      go_wp2_with (at_builtin;refine Qby rfl (.tmp 7) (.tmp 12) rfl base _ m rfl HR.out.1 _ _ rfl rfl (by omega) hs ?_;intro v' w1 b j q)
      go_roundw
      case rel=>exact ⟨k / 128,m ++ [BitVec.ofNat 8 (128+k % 128)],by go_num,by omega,b,HR.out.2.1.trans j,by rw [HR.out.2.2.1,Qc6 (by omega)];simp,HR.out.2.2.2.trans q⟩
      case measure=>simp [intOf];omega
theorem QsC (w:World):(w.alloc (.cells #[] 5)).ownsRow w.heap.size 5 1 (.slice (some ⟨w.heap.size,0,none⟩) 0 0) 0 [] :=
  ⟨rfl,.inr ⟨w.heap.size,0,#[],rfl,Bj _,BT w _,Bj _,by simp [maxLen],rfl,rfl⟩⟩
theorem QfC (l:Bg) (sv:Value) (N:Nat) (w:World) (hb:Bytes w N sv l) (hN:N≤w.heap.size) (q:l.length≤140737488355328) :
    Calls prog 102 #[sv] w fun e w'=>∃ v,e=.returned v∧Qq w' w.heap.size v l∧Bd w w':=by
  obtain ⟨oa,ca,rfl,hca⟩:=hb.shape
  have hnil:∀ (a:Option Addr) (n c:Nat) (w:World),(binOp .eql 29 (.slice a n c) (Bc)).run prog w=.ok (.bool a.isNone) w:=fun a n c w=>by
    simp only [binOp];simp [run_equal_slice_nil w _ _ a n c QlO]
  cases oa with
  | none =>
    have h0:l=[]:=by
      rcases hb with ⟨_,h⟩ | ⟨_,_,h,_⟩ | ⟨_,_,_,h,_⟩
      · exact h
      · simp at h
      · simp at h
    subst h0
    go_in
    go_wp2;go_ret
    have hz:ca=0:=by
      rcases hb with ⟨h,_⟩ | ⟨_,_,h,_⟩ | ⟨_,_,_,h,_⟩
      · simp at h;exact h
      · simp at h
      · simp at h
    subst hz;exact ⟨_,rfl,Qq.nil _ _,Bi _ _⟩
  | some a =>
    have j:Bd w (w.alloc (.cells #[] 5)):=(Bi _ _).alloc (Bj _) _;have z:=hb.below (j.mono hN);have A:=QsC w
    go_in
    go_wp2_with (at_builtin;refine QdH rfl (.tmp 5) (.tmp 6) rfl w.heap.size _ 0 [] rfl A _ l rfl z ?_ ?_ ?_;(rw [Bq];exact q);exact j.size;intro v' w1 b m)
    go_ret;refine ⟨_,rfl,?_,j.trans m⟩;rw [Bq,Bv] at b;unfold Qq;exact b
theorem Row.three {a b c:Value} (h:Row w g t [a,b,c]) :
    w.cell? ⟨g,0,none⟩=some a∧w.cell? ⟨g,1,none⟩=some b∧w.cell? ⟨g,2,none⟩=some c∧w.frozen? ⟨g,0,none⟩=false∧w.frozen? ⟨g,1,none⟩=false∧w.frozen? ⟨g,2,none⟩=false :=
  ⟨h.cell 0,h.cell 1,h.cell 2,h.frozen 0,h.frozen 1,h.frozen 2⟩
theorem Row.set3 {a b c:Value} (h:Row w g t [a,b,c]) (x y z:Value) :
    (((w.setCell ⟨g,0,none⟩ x).setCell ⟨g,1,none⟩ y).setCell ⟨g,2,none⟩ z).cell? ⟨g,0,none⟩=some x ∧
    (((w.setCell ⟨g,0,none⟩ x).setCell ⟨g,1,none⟩ y).setCell ⟨g,2,none⟩ z).cell? ⟨g,1,none⟩=some y ∧
    (((w.setCell ⟨g,0,none⟩ x).setCell ⟨g,1,none⟩ y).setCell ⟨g,2,none⟩ z).cell? ⟨g,2,none⟩=some z :=
  have h3:=((h.set 0 x).set 1 y).set 2 z
  ⟨h3.cell 0,h3.cell 1,h3.cell 2⟩
theorem JO {a:World} (h:Below B a w) (hg:B≤g) (x y z:Value):Below B a (((w.setCell ⟨g,0,none⟩ x).setCell ⟨g,1,none⟩ y).setCell ⟨g,2,none⟩ z) :=
  ((h.setCell hg _).setCell hg _).setCell hg _
theorem JI (w:World) (n N:Nat):Below N w (w.drewN n):=⟨rfl,rfl,rfl,Bj _,fun _ _=>rfl⟩
theorem Bytes.above (h:Bytes w' N sv l) (hg:Bd w w') (hN:N≤w.heap.size):Bytes w N sv l:=by
  rcases h with h | h | ⟨b,off,cap,h1,h2,h3⟩
  · exact .inl h
  · exact .inr (.inl h)
  · refine .inr (.inr ⟨b,off,cap,h1,h2,fun i hi=>⟨(h3 i hi).1,?_⟩⟩)
    have hb:=(h3 i hi).1;rw [← (h3 i hi).2];exact (hg.cell (show b<w.heap.size by omega)).symm
theorem Qq.set3 {base:Nat} (h:Qq w base v l) (hg:g<base) (x y z:Value):Qq (((w.setCell ⟨g,0,none⟩ x).setCell ⟨g,1,none⟩ y).setCell ⟨g,2,none⟩ z) base v l :=
  h.keep fun k hk=>by
    rw [Cq _ _ _ _ (show k≠g by omega),Cq _ _ _ _ (show k≠g by omega),Cq _ _ _ _ (show k≠g by omega)]
def pcV (p:Pc) (vb:Value):Value:=.agg #[Bb p.k,.int .u64 (p.n:Int),vb]
theorem QrI (x:BitVec 8) (r:Bg) (h:1<x.toNat):Qbf (x :: r)=none:=by rw [Qbf,if_pos h]
theorem QpO (x:BitVec 8) (r:Bg) (h:QcI r=none):Qbf (x :: r)=none:=by rw [Qbf,h];split <;> rfl
theorem QrJ (x:BitVec 8) (r r':Bg) (n:Nat) (h0:x.toNat=0) (h:QcI r=some (n,r')):Qbf (x :: r)=some (⟨1,n,[]⟩,r'):=by rw [Qbf,if_neg (by omega),h];simp [h0]
theorem Qnv (x:BitVec 8) (r r':Bg) (n:Nat) (h0:x.toNat=1) (h:QcI r=some (n,r')):Qbf (x :: r)=if r'.length<n then none else some (⟨2,0,r'.take n⟩,r'.drop n):=by rw [Qbf,if_neg (by omega),h];simp [h0]
theorem QkA (l:Bg) (sv:Value) (N:Nat) (w:World) (hb:Bytes w N sv l) (hN:N≤w.heap.size) (hlen:l.length≤140737488355328) :
    Calls prog 193 #[sv] w fun e w'=>Bd w w' ∧
      ((Qbf l=none∧e=.returned (.tuple #[pcV ⟨0,0,[]⟩ (Bc),Bc,.bool false])) ∨
       ∃ (p:Pc) (r:Bg) (vb vr:Value),Qbf l=some (p,r)∧e=.returned (.tuple #[pcV p vb,vr,.bool true])∧Qq w' w.heap.size vb p.b∧Bytes w N vr r):=by
  obtain ⟨oa,ca,rfl,hca⟩:=hb.shape;obtain ⟨w0,M⟩:∃ w0,w.alloc (.cells #[Bb 0,.int .u64 0,Bc] 184)=w0:=⟨_,rfl⟩;have D:w0.heap.size=w.heap.size+1:=by rw [← M];simp
  have E:=bof M;have C:Row w0 w.heap.size 184 [Bb 0,.int .u64 0,Bc]:=by rw [← M];exact Row.new _ _ _
  have HB:=hid hb;have z:=hid E;have j:=hid C;have HW0:=hid E;clear hb E C
  cases l with
  | nil =>
    obtain ⟨c0,c1,c2,z0,z1,z2⟩:=j.out.three
    go_in
    go_wp2;obtain ⟨d0,d1,d2⟩:=j.out.set3 (Bb 0) (.int .u64 0) (Bc);refine BG (v:=.tuple #[pcV ⟨0,0,[]⟩ (Bc),Bc,.bool false]) (by simp [results,results193,go_sem,d0,d1,d2,pcV]) rfl ⟨?_,.inl ⟨rfl,rfl⟩⟩
    exact JO z.out (Bj _) _ _ _
  | cons x l =>
    obtain ⟨b,o,rfl,c1⟩:=HB.out.some (by simp)
    have aF:w0.cell? ⟨b,o,none⟩=some (.int .u8 (b8 x)):=by
      have:=c1 0 (by simp)
      rw [z.out.cell (by show b<w.heap.size;omega)]
      simpa using this.2
    have hx8:=x.isLt;obtain ⟨vt,aC,aE⟩:=Qcr HB.out .i64 1 (by simp)
    have aL:=hid (show Bytes w N vt l by simpa using aE)
    generalize hn:(x :: l).length=n at *;have HN:=hid hn;have hn0:0<n:=by rw [← hn];simp
    have hne:((n:Int) == 0)=false:=by simp;omega
    have hsl1:∀ w':World,(Instr.sliceAt 29 (.slice (some ⟨b,o,none⟩) n ca) (some (Bb 1)) none none).run prog w'=.ok vt w':=aC;clear c1 aE hn aC
    by_cases Y:1<x.toNat
    · have e1:decide ((1:Int)<b8 x)=true:=by unfold b8;simp;omega
      obtain ⟨c0,c1,c2,z0,z1,z2⟩:=j.out.three
      go_in
      go_wp2;obtain ⟨d0,d1,d2⟩:=j.out.set3 (Bb 0) (.int .u64 0) (Bc);refine BG (v:=.tuple #[pcV ⟨0,0,[]⟩ (Bc),Bc,.bool false]) (by simp [results,results193,go_sem,d0,d1,d2,pcV]) rfl ⟨?_,.inl ⟨QrI x l Y,rfl⟩⟩
      exact JO z.out (Bj _) _ _ _
    · have e1:decide ((1:Int)<b8 x)=false:=by unfold b8;simp;omega
      have HC:=hid (QdO l vt N w0 (aL.out.below (z.out.mono hN)) (by have:=HN.out;simp at this;omega))
      go_in
      go_wp2_with fail
      refine HC.out.mono ?_;rintro e w1 ⟨⟨q,rfl⟩,⟨hc,rfl⟩ | ⟨m,r,v,hc,rfl,hv⟩⟩
      · obtain ⟨c0,c1,c2,z0,z1,z2⟩:=(j.out.drewN q).three
        go_wp2;obtain ⟨d0,d1,d2⟩:=(j.out.drewN q).set3 (Bb 0) (.int .u64 0) (Bc);refine BG (v:=.tuple #[pcV ⟨0,0,[]⟩ (Bc),Bc,.bool false]) (by simp [results,results193,go_sem,d0,d1,d2,pcV]) rfl ⟨?_,.inl ⟨QpO x l hc,rfl⟩⟩
        exact JO (z.out.trans (JI w0 q _)) (Bj _) _ _ _
      · obtain ⟨rfl,hm64⟩:=QbO hc
        have HV:=hid hv;have O:=hid hc;obtain ⟨ov,cv,rfl,hcv⟩:=hv.shape;have hxq:(w0.drewN q).cell? ⟨b,o,none⟩=some (.int .u8 (b8 x)):=aF;clear hv hc aF
        by_cases aN:x.toNat=0
        · have e2:(b8 x == 0)=true:=by unfold b8;simp;omega
          obtain ⟨c0,c1,c2,z0,z1,z2⟩:=(j.out.drewN q).three;go_wp2;obtain ⟨d0,d1,d2⟩:=(j.out.drewN q).set3 (Bb 1) (.int .u64 (m:Int)) (Bc);refine BG (v:=.tuple #[pcV ⟨1,m,[]⟩ (Bc),.slice ov r.length cv,.bool true]) (by simp [results,results193,go_sem,d0,d1,d2,pcV]) rfl ⟨?_,.inr ⟨_,r,_,_,QrJ x _ r m aN O.out,rfl,Qq.nil _ _,HV.out.above z.out hN⟩⟩
          exact JO (z.out.trans (JI w0 q _)) (Bj _) _ _ _
        · have e2:(b8 x == 0)=false:=by unfold b8;simp;omega
          have S:=hid (Qnv x _ r m (by omega) O.out)
          have hrl:r.length≤140737488355328:=by have:=HN.out;simp at this;omega
          have hwr:IntKind.u64.wrap (r.length:Int)=(r.length:Int):=wrap64 _ (by omega)
          by_cases aA:r.length<m
          · have e3:decide ((r.length:Int)<(m:Int))=true:=by simp;omega
            obtain ⟨c0,c1,c2,z0,z1,z2⟩:=(j.out.drewN q).three;go_wp2;obtain ⟨d0,d1,d2⟩:=(j.out.drewN q).set3 (Bb 0) (.int .u64 0) (Bc);refine BG (v:=.tuple #[pcV ⟨0,0,[]⟩ (Bc),Bc,.bool false]) (by simp [results,results193,go_sem,d0,d1,d2,pcV]) rfl ⟨?_,.inl ⟨by rw [S.out,if_pos aA],rfl⟩⟩
            exact JO (z.out.trans (JI w0 q _)) (Bj _) _ _ _
          · have e3:decide ((r.length:Int)<(m:Int))=false:=by simp;omega
            obtain ⟨v1,hs1,I⟩:=Qtd HV.out .u64 m (by omega)
            obtain ⟨v2,hs2,aD⟩:=Qcr HV.out .u64 m (by omega)
            have aJ:=hid (aD.above z.out hN);obtain ⟨t,ht⟩:∃ t,r.take m=t:=⟨_,rfl⟩;rw [ht] at I;have aM:t.length≤140737488355328:=by rw [← ht];simp;omega
            have HT:=hid (show Qbf (x :: (Zk m ++ r))=some (⟨2,0,t⟩,r.drop m) by rw [S.out,if_neg aA,ht])
            clear ht;have aI:=hid (fun (k:Nat)=>QfC t v1 N (w0.drewN k) (I.below (JI _ _ _)) (by show N≤w0.heap.size;omega) aM)
            clear I aD
            go_wp2_with fail
            have HBD:Hid (Bd w0 (w0.drewN (q+1))):=hid (JI _ _ _)
            go_region_with (go_at_call 102;refine (aI.out _).mono ?_;rintro e wc ⟨vc,rfl,L,G⟩;obtain ⟨aG,T,rfl,hcvc⟩:=L.shape;have aB:=hid (j.out.below ((JI w0 _ _).trans G) (Nat.lt_of_lt_of_eq (Nat.lt_succ_self _) D.symm));have A:=(JI w0 _ _).trans G;have aH:=hid A;have aK:=hid L;obtain ⟨c0,c1,c2,z0,z1,z2⟩:=(j.out.below A (Nat.lt_of_lt_of_eq (Nat.lt_succ_self _) D.symm)).three;clear G A L)
            go_wp2;obtain ⟨d0,d1,d2⟩:=aB.out.set3 (Bb 2) (.int .u64 0) (.slice aG t.length T);refine BG (v:=.tuple #[pcV ⟨2,0,t⟩ (.slice aG t.length T),v2,.bool true]) (by simp [results,results193,go_sem,d0,d1,d2,pcV]) rfl ⟨?_,.inr ⟨_,_,_,_,HT.out,rfl,?_,aJ.out⟩⟩
            · exact JO (z.out.trans (aH.out.mono (show w.heap.size≤w0.heap.size by omega))) (Bj _) _ _ _
            · refine (Qq.set3 aK.out (show w.heap.size<w0.heap.size by omega) _ _ _).mono (show w.heap.size≤w0.heap.size by omega)
def JF (w:World) (N:Nat) (sv:Value) (l:List Pc):Prop :=
  (sv=Bc∧l=[])∨(∃ a cap,sv=.slice (some a) 0 cap∧l=[]) ∨
  ∃ b off cap,sv=.slice (some ⟨b,off,none⟩) l.length cap∧l.length≤cap∧∀ i p,l[i]?=some p→b<N∧∃ vb,
    w.cell? ⟨b,off+i*3,none⟩=some (Bb p.k)∧w.cell? ⟨b,off+i*3+1,none⟩=some (.int .u64 (p.n:Int))∧w.cell? ⟨b,off+i*3+2,none⟩=some vb∧Bytes w N vb p.b
theorem JF.shape {l:List Pc} (h:JF w N sv l):∃ oa e,sv=.slice oa l.length e∧l.length≤e:=by
  rcases h with ⟨rfl,rfl⟩ | ⟨a,e,rfl,rfl⟩ | ⟨b,off,e,rfl,hc,_⟩
  · exact ⟨none,0,rfl,Bj _⟩
  · exact ⟨_,e,rfl,BF _⟩
  · exact ⟨_,e,rfl,hc⟩
theorem JF.some {j:Nat} {l:List Pc} (h:JF w N (.slice oa n j) l) (hl:0<n) :
    ∃ b e,oa=some ⟨b,e,none⟩∧∀ i p,l[i]?=some p→b<N∧∃ vb,
    w.cell? ⟨b,e+i*3,none⟩=some (Bb p.k)∧w.cell? ⟨b,e+i*3+1,none⟩=some (.int .u64 (p.n:Int))∧w.cell? ⟨b,e+i*3+2,none⟩=some vb∧Bytes w N vb p.b:=by
  rcases h with ⟨h1,_⟩ | ⟨_,_,h1,_⟩ | ⟨b,e,c,h1,_,h3⟩
  · simp at h1;omega
  · simp at h1;omega
  · simp at h1
    exact ⟨b,e,h1.1,h3⟩
theorem JF.below {l:List Pc} (h:JF w N sv l) (hg:Below N w w'):JF w' N sv l:=by
  rcases h with h | h | ⟨b,off,cap,h1,h2,h3⟩
  · exact .inl h
  · exact .inr (.inl h)
  · refine .inr (.inr ⟨b,off,cap,h1,h2,fun i p hp=>?_⟩)
    obtain ⟨hb,vb,d0,d1,d2,d3⟩:=h3 i p hp;exact ⟨hb,vb,(hg.cell hb).trans d0,(hg.cell hb).trans d1,(hg.cell hb).trans d2,d3.below hg⟩
theorem JF.mono {l:List Pc} (h:JF w N sv l) (hN:N≤g):JF w g sv l:=by
  rcases h with h | h | ⟨b,off,cap,h1,h2,h3⟩
  · exact .inl h
  · exact .inr (.inl h)
  · refine .inr (.inr ⟨b,off,cap,h1,h2,fun i p hp=>?_⟩)
    obtain ⟨hb,vb,d0,d1,d2,d3⟩:=h3 i p hp;exact ⟨Bt hb hN,vb,d0,d1,d2,d3.mono hN⟩
def Pc.fits (p:Pc):Prop:=p.ok∧p.b.length≤140737488351232
theorem Qch: (prog.info? 184).map (fun i=>(i.zero,i.size,i.bytes))=some (some (.agg #[Bb 0,.int .u64 0,Bc]),3,40):=by kernel_rfl
def YN (q:Pc×Value):List Value:=[Bb q.1.k,.int .u64 (q.1.n:Int),q.2]
def QeC (w:World) (base:Nat) (v:Value) (ps:List (Pc×Value)):Prop :=
  w.ownsRow base 184 3 v ps.length (ps.flatMap YN)∧∀ q∈ps,Qq w base q.2 q.1.b
theorem QeC.nil (w:World) (base:Nat):QeC w base (Bc) []:=⟨C9 w base 184 3,fun _ h=>by simp at h⟩
theorem Yg {base e size:Nat} (h:w.ownsRow base e size v n xs) (hg:Bd w w'):w'.ownsRow base e size v n xs:=by
  obtain ⟨h1,h2⟩:=h;refine ⟨h1,?_⟩
  rcases h2 with h2 | ⟨g,cap,cur,h3,h4,h5,h6⟩
  · exact .inl h2
  · exact .inr ⟨g,cap,cur,h3,h4,(hg.block g (BP.1 h5).1).trans h5,h6⟩
theorem Qq.below {base:Nat} (h:Qq w base v l) (hg:Bd w w'):Qq w' base v l:=Yg h hg
theorem QeC.below {base:Nat} {ps:List (Pc×Value)} (h:QeC w base v ps) (hg:Bd w w'):QeC w' base v ps :=
  ⟨Yg h.1 hg,fun q hq=>(h.2 q hq).below hg⟩
theorem QeC.shape {base:Nat} {ps:List (Pc×Value)} (h:QeC w base v ps):∃ oa b,v=.slice oa ps.length b∧ps.length≤b:=by
  obtain ⟨⟨_,h2⟩,_⟩:=h
  rcases h2 with ⟨h3,h4⟩ | ⟨g,b,cur,h3,_,_,h4,_⟩
  · exact ⟨none,0,by rw [h4];exact h3,by omega⟩
  · exact ⟨_,b,h3,h4⟩
theorem Qq.grown {base base':Nat} (h:Qq w base v4 l) (hv:w.ownsRow base' 184 3 v n xs) (hg:w.grownBy w' v.ownBlock):Qq w' base v4 l:=by
  obtain ⟨h1,h2⟩:=h;refine ⟨h1,?_⟩
  rcases h2 with h2 | ⟨g,cap,cur,h3,h4,h5,h6⟩
  · exact .inl h2
  · refine .inr ⟨g,cap,cur,h3,h4,?_,h6⟩
    rw [hg.block g (BP.1 h5).1 ?_,h5];intro he;obtain ⟨_,h7⟩:=hv
    rcases h7 with ⟨rfl,_⟩ | ⟨g',c',cur',rfl,_,b,_⟩
    · simp [Value.ownBlock] at he
    · obtain rfl:g=g':=by simpa [Value.ownBlock] using he
      rw [b] at h5;simp at h5
theorem QdI {z:Array Oper} {rest:List Oper} (A:o.guard=none) (s x:Operand)
    (ho:o.op=.call { callee:=.builtin .append,args:=#[s,x],argTypes:=#[186,186] })
    (base:Nat) (v:Value) (ps:List (Pc×Value)) (hs:a.eval s=v) (j:QeC w base v ps) (p:Pc) (ob:Option Addr) (cb:Nat) (hp:Qq w base (.slice ob p.b.length cb) p.b)
    (hx:a.eval x=.slice (some ⟨w.heap.size,0,none⟩) 1 1) (hl:ps.length≤1000000) (m:base≤w.heap.size)
    (h:∀ v' w',QeC w' base v' (ps ++ [(p,.slice ob p.b.length cb)])→Below base w w'→wpList prog z Q rest (a.put o.dst v') w') :
    wpList prog z Q (o :: rest) a (w.alloc (.cells #[Bb p.k,.int .u64 (p.n:Int),.slice ob p.b.length cb] 184)):=by
  obtain ⟨i0,C,D,E,G⟩:=Cg Qch;have e:Bd w (w.alloc (.cells #[Bb p.k,.int .u64 (p.n:Int),.slice ob p.b.length cb] 184)):=(Bi _ _).alloc (Bj _) _
  refine Ea _ A s x 186 ho base 184 i0 _ 3 40 underlying186 C D E G rfl (by decide) v ps.length (ps.flatMap YN) hs (Yg j.1 e) ⟨w.heap.size,0,none⟩ 1 1
    [Bb p.k,.int .u64 (p.n:Int),.slice ob p.b.length cb] hx rfl (Qjj _ _ _) (by simp) (by unfold maxLen;omega) (by omega) (Bh m e.size) ?_
  intro v' w' h1 h2 _;refine h v' w' ⟨?_,fun q hq=>?_⟩ ((e.mono m).trans ((Bi base _).grown h2 (Bh m e.size) (fun k hk=>((Yg j.1 e).lt k hk).1)))
  · rw [Br,List.flatMap_append]
    exact h1
  · rcases Bw.1 hq with hq | hq
    · exact ((j.2 q hq).below e).grown (Yg j.1 e) h2
    · obtain rfl:q=(p,.slice ob p.b.length cb):=by simpa using hq
      exact (hp.below e).grown (Yg j.1 e) h2
theorem QlR (ps:List (Pc×Value)):∀ (i j:Nat) (q:Pc×Value),ps[i]?=some q→j<3→(ps.flatMap YN)[i*3+j]?=(YN q)[j]?:=by
  induction ps with
  | nil=>intro i j q h;simp at h
  | cons a ps ih =>
    intro i j q h hj;rw [List.flatMap_cons];have ha:(YN a).length=3:=rfl
    cases i with
    | zero =>
      obtain rfl:a=q:=by simpa using h
      rw [CR,Bq,Cw (by omega)]
    | succ i =>
      rw [CY (by omega),ha,show (i+1)*3+j-3=i*3+j by omega]
      exact ih i j q (by simpa using h) hj
theorem QeC.pieces {base:Nat} {ps:List (Pc×Value)} (h:QeC w base v ps):JF w w.heap.size v (ps.map (·.1)):=by
  obtain ⟨⟨h1,h2⟩,h3⟩:=h
  rcases h2 with ⟨rfl,h0⟩ | ⟨g,e,m,rfl,_,hg,hn,_,hc,hx⟩
  · exact .inl ⟨rfl,by rw [CD.1 h0];rfl⟩
  · refine .inr (.inr ⟨g,0,e,by simp,by simpa using hn,fun i p hp=>?_⟩)
    obtain ⟨q,hq,rfl⟩:∃ q,ps[i]?=some q∧q.1=p:=by simpa using hp
    refine ⟨(BP.1 hg).1,q.2,?_⟩;have hil:i<ps.length:=(Bm.1 hq).1
    have b:∀ j,j<3→w.cell? ⟨g,0+i*3+j,none⟩=(YN q)[j]?:=fun j hj=>by
      rw [CC w g _ m _ _ hg,← QlR ps i j q hq hj,← hx,BE,if_pos (by omega),Bq,Dn]
    exact ⟨b 0 (by omega),b 1 (by omega),b 2 (by omega),(h3 q (Bn hq)).bytes⟩
theorem Qn5 (b:Bg) (h:20000<b.length):ZL b=.error 4:=by unfold ZL;rw [if_pos h]
theorem Qn6 (b:Bg) (h:¬ 20000<b.length) (hc:QcI b=none):ZL b=.error 2:=by unfold ZL;rw [if_neg h,hc]
theorem Qn4 (b r:Bg) (n:Nat) (h:¬ 20000<b.length) (hc:QcI b=some (n,r)) (hn:200<n):ZL b=.error 2:=by unfold ZL;rw [if_neg h,hc];simp only;rw [if_pos hn]
theorem QsP (b r:Bg) (n:Nat) (h:¬ 20000<b.length) (hc:QcI b=some (n,r)) (hn:¬ 200<n):ZL b=match QbV n [] r with | none=>.error 2 | some l=>.ok l:=by unfold ZL;rw [if_neg h,hc];simp only;rw [if_neg hn];first | done | (cases QbV n [] r <;> rfl)
theorem QqK (e:List Pc) (b:Bg):QbV 0 e b=if b.length=0 then some e else none:=rfl
theorem QqH (c:Nat) (e:List Pc) (b:Bg) (hc:0<c) (h:Qbf b=none):QbV c e b=none:=by
  cases c with
  | zero=>omega
  | succ c=>rw [QbV,h]
theorem QqJ (c d:Nat) (e:List Pc) (b r:Bg) (p:Pc) (hc:c=d+1) (h:Qbf b=some (p,r)):QbV c e b=QbV d (e ++ [p]) r:=by
  subst hc;rw [QbV,h]
theorem QsS (b:Bg) (sv:Value) (N:Nat) (w:World) (hb:Bytes w N sv b) (hN:N≤w.heap.size) (hlen:b.length≤140737488355328) :
    Calls prog 149 #[sv] w fun e w'=>Bd w w' ∧
      ((∃ m v,ZL b=.ok m∧e=.returned (.tuple #[v,Bb 0])∧JF w' w'.heap.size v m) ∨
       ∃ c,ZL b=.error c∧e=.returned (.tuple #[Bc,Bb c])):=by
  obtain ⟨oa,ca,rfl,hca⟩:=hb.shape;have HB:=hid hb;clear hb;generalize hn:b.length=n at *;have HN:=hid hn;clear hn
  by_cases I:20000<n
  · have e1:decide ((20000:Int)<(n:Int))=true:=by simp;omega
    go_in
    go_wp2;go_ret2;exact ⟨Bi _ _,.inr ⟨4,Qn5 b (by rw [HN.out];exact I),rfl⟩⟩
  · have e1:decide ((20000:Int)<(n:Int))=false:=by simp;omega
    have HM:=hid (show ¬ 20000<b.length by rw [HN.out];exact I)
    have HC:=hid (QdO b _ N w HB.out (by rw [HN.out];omega))
    go_in
    go_wp2_with fail
    refine HC.out.mono ?_;rintro e w1 ⟨⟨q,rfl⟩,⟨hc,rfl⟩ | ⟨c,r,v,hc,rfl,hv⟩⟩
    · go_wp2
      go_ret2;exact ⟨JI _ _ _,.inr ⟨2,Qn6 b HM.out hc,rfl⟩⟩
    · have aG:=hid hc
      have HV:=hid hv;have hc64:=(QbO hc).2;have aX:r.length≤20000:=by have h1:=(QbO hc).1;have h2:=HM.out;rw [h1] at h2;simp at h2;omega
      clear hc hv
      by_cases G:200<c
      · have e2:decide ((200:Int)<(c:Int))=true:=by simp;omega
        go_wp2;go_ret2;exact ⟨JI _ _ _,.inr ⟨2,Qn4 b r c HM.out aG.out G,rfl⟩⟩
      · have e2:decide ((200:Int)<(c:Int))=false:=by simp;omega
        have aB:=hid (QsP b r c HM.out aG.out G)
        go_wp2_with fail
        go_loopw [5,7,25] (fun y z i wr=>∃ (k:Nat) (ps:List (Pc×Value)) (t:Bg),k≤c∧ps.length=k∧t.length≤20000∧i=.int .u64 (k:Int)∧Hid (Bytes w N y t∧QeC wr w.heap.size z ps∧Bd w wr∧QbV c [] r=QbV (c-k) (ps.map (·.1)) t)) (fun _ _ i _=>c-(intOf i).toNat)
        case atStart=>exact ⟨0,[],r,by omega,rfl,aX,rfl,HV.out,QeC.nil _ _,JI _ _ _,rfl⟩
        case round =>
          obtain ⟨k,ps,t,hk,aK,ht,rfl,HR⟩:=hrel;have aQ:=hid (show ps.length≤1000000 by omega)
          have aR:=hid aK;clear aK
          by_cases hlt:k<c
          · obtain ⟨oy,cy,rfl,aV⟩:=HR.out.1.shape
            obtain ⟨oz,cz,rfl,hcz⟩:=HR.out.2.1.shape;have hlt':(k:Int)<(c:Int):=by omega
            have M:=HR.out.2.2.1.size;obtain ⟨w1,O⟩:∃ w1,wr.alloc (.cells #[Bb 0,.int .u64 0,Bc] 184)=w1:=⟨_,rfl⟩;have hsz1:w1.heap.size=wr.heap.size+1:=by rw [← O];simp
            have aC:=bof O;have L:Row w1 wr.heap.size 184 [Bb 0,.int .u64 0,Bc]:=by rw [← O];exact Row.new _ _ _
            have E:Bd w w1:=HR.out.2.2.1.trans (aC.mono M);have aO:=hid (QkA t (.slice oy t.length cy) N w1 (HR.out.1.below (E.mono hN)) (by omega) (by omega))
            have aL:=hid aC;have aH:=hid L;have T:=hid E;have aT:=hid O;clear aC L E O
            go_wp2_with fail
            rw [aT.out];refine aO.out.mono ?_;rintro e w2 ⟨D,⟨j,rfl⟩ | ⟨p,t',vb,vr,j,rfl,hvb,hvr⟩⟩
            · obtain ⟨c0,c1,c2,z0,z1,z2⟩:=(aH.out.below D (by omega)).three
              have aM:=hid D;have C:=hid j;unfold pcV;clear D j;go_wp2;go_ret2;refine ⟨?_,.inr ⟨2,?_,rfl⟩⟩
              · exact JO (T.out.trans (aM.out.mono (by omega))) M _ _ _
              · rw [aB.out,HR.out.2.2.2,QqH _ _ _ (by omega) C.out]
            · obtain ⟨ob,cb,rfl,hcb⟩:=hvb.shape
              have A:=aH.out.below D (by omega)
              obtain ⟨c0,c1,c2,z0,z1,z2⟩:=A.three;obtain ⟨d0,d1,d2⟩:=A.set3 (Bb p.k) (.int .u64 (p.n:Int)) (.slice ob p.b.length cb);obtain ⟨w3,aF⟩:∃ w3,((w2.setCell ⟨wr.heap.size,0,none⟩ (Bb p.k)).setCell ⟨wr.heap.size,1,none⟩ (.int .u64 (p.n:Int))).setCell ⟨wr.heap.size,2,none⟩ (.slice ob p.b.length cb)=w3:=⟨_,rfl⟩;have S:Bd wr w3:=by rw [← aF];exact JO (aL.out.trans (D.mono (by omega))) (Bj _) _ _ _
              have aA:Qq w3 w.heap.size (.slice ob p.b.length cb) p.b:=by rw [← aF];exact (hvb.set3 (show wr.heap.size<w1.heap.size by omega) _ _ _).mono (by omega)
              rw [aF] at d0 d1 d2;have aN:=hid (HR.out.2.2.1.trans (S.mono M));have aP:=hid (HR.out.2.1.below S);have aJ:=hid aA;have aS:=hid (hvr.above T.out hN);have C:=hid j;have aI:=hid (show w.heap.size≤w3.heap.size by have:=S.size;omega)
              unfold pcV;clear D S aA hvb hvr j A
              go_wp2_with (at_builtin;refine QdI rfl (.tmp 35) (.tmp 37) rfl w.heap.size _ ps rfl aP.out p ob cb aJ.out rfl aQ.out aI.out ?_;intro v' w4 aD aU)
              go_roundw
              case rel =>
                refine ⟨k+1,ps ++ [(p,.slice ob p.b.length cb)],t',by omega,by simp [aR.out],?_,by go_num,aS.out,aD,aN.out.trans aU,?_⟩
                · have h1:=Bl List.length (Qjn C.out).1
                  simp at h1;omega
                · rw [HR.out.2.2.2,QqJ (c-k) (c-(k+1)) _ t t' p (by omega) C.out]
                  simp
              case measure=>simp [intOf];omega
          · have hge:decide ((k:Int)<(c:Int))=false:=by simp;omega
            obtain ⟨oy,cy,rfl,aV⟩:=HR.out.1.shape;have aW:c-k=0:=by omega
            have Y:=hid (show QbV c [] r=if t.length=0 then some (ps.map (·.1)) else none by rw [HR.out.2.2.2,aW,QqK])
            by_cases aE:t.length=0
            · have e3:decide ((0:Int)<(t.length:Int))=false:=by rw [aE];decide
              go_wp2;go_ret2;exact ⟨HR.out.2.2.1,.inl ⟨_,_,by rw [aB.out,Y.out,if_pos aE],rfl,HR.out.2.1.pieces⟩⟩
            · have e3:decide ((0:Int)<(t.length:Int))=true:=BB (by omega)
              go_wp2;go_ret2;exact ⟨HR.out.2.2.1,.inr ⟨2,by rw [aB.out,Y.out,if_neg aE],rfl⟩⟩
theorem Qm5 (n:Nat) (h:n≤1000000):IntKind.i64.wrap (20000-(n:Int))=20000-(n:Int):=by simp [IntKind.wrap,IntKind.bits,IntKind.signed];split <;> omega
theorem Qgx (p:Pc) (l:Bg) (v vb:Value) (base N:Nat) (w:World) (hb:base≤w.heap.size) (aG:Qq w base v l) (hl:l.length≤20000) (hp:p.ok) (aZ:Bytes w N vb p.b) (hN:N≤base) (hpl:p.b.length≤140737488351232) :
    Calls prog 157 #[v,pcV p vb] w fun e w'=>Below base w w' ∧
      ((¬ (p.k=1∨p.k=2)∧e=.returned (.tuple #[Bc,Bb 1])) ∨
       ((p.k=1∨p.k=2)∧20000<(l ++ p.wr).length∧e=.returned (.tuple #[Bc,Bb 4])) ∨
       ((p.k=1∨p.k=2)∧(l ++ p.wr).length≤20000∧∃ v',e=.returned (.tuple #[v',Bb 0])∧Qq w' base v' (l ++ p.wr))):=by
  obtain ⟨ob,cb,rfl,hcb⟩:=aZ.shape;obtain ⟨ov,cv,rfl,hcv⟩:=aG.shape;obtain ⟨w0,aI⟩:∃ w0,w.alloc (.cells #[Bb p.k,.int .u64 (p.n:Int),.slice ob p.b.length cb] 184)=w0:=⟨_,rfl⟩;have aL:w0.heap.size=w.heap.size+1:=by rw [← aI];simp
  have aY:=bof aI;have aA:Row w0 w.heap.size 184 [Bb p.k,.int .u64 (p.n:Int),.slice ob p.b.length cb]:=by rw [← aI];exact Row.new _ _ _
  obtain ⟨c0,c1,c2,z0,z1,z2⟩:=aA.three;have HO:=hid (show Qq w0 base (.slice ov l.length cv) l by rw [← aI];exact aG.alloc _)
  have aa:=hid (aZ.below (aY.mono (Bh hN hb)));have aQ:=hid aY;have a3:=hid aA;clear aG aZ aY aA;unfold pcV
  by_cases G:p.k=1
  · have e1:(p.k == 1)=true:=by simp [G]
    have HK:=hid G;clear G
    go_in
    go_wp2_with fail
    have aM:=hid (show Qq (w0.alloc (.cells #[.int .u8 0] 5)).drew base (.slice ov l.length cv) l from HO.out.alloc _);have aN:=hid (show Bytes (w0.alloc (.cells #[.int .u8 0] 5)).drew (w0.heap.size+1) (.slice (some ⟨w.heap.size+1,0,none⟩) 1 1) [0] by rw [← aL];exact (ZY w0 [0] 5 (0,0) 1 (by simp)).drewN 1)
    have aO:=hid (show l.length+[(0:BitVec 8)].length≤140737488355328 by simp;omega)
    have aB:=hid (show base≤((w0.alloc (.cells #[.int .u8 0] 5)).drew).heap.size by show base≤(w0.alloc (.cells #[.int .u8 0] 5)).heap.size;simp;omega)
    have aP:=hid (show Row ((w0.alloc (.cells #[.int .u8 0] 5)).drew) w.heap.size 184 [Bb p.k,.int .u64 (p.n:Int),.slice ob p.b.length cb] from (a3.out.alloc _));obtain ⟨l1,z⟩:∃ l1,l ++ [0]=l1:=⟨_,rfl⟩;obtain ⟨l2,A⟩:∃ l2,l1 ++ Zk p.n=l2:=⟨_,rfl⟩;have aT:=hid z;have aU:=hid A;have M:l1.length≤1000000:=by rw [← z];simp;omega
    have O:l2=l ++ p.wr:=by rw [← A,← z];simp [Pc.wr,HK.out]
    have aF:l2.length≤1000000:=by have:=Q4 p.n hp;rw [← A,← z];simp;omega
    have T:=hid O;have aV:=hid M;clear z A O M
    go_region_law (first
      | (refine QbZ rfl (.tmp 11) (.tmp 12) rfl base (.slice ov l.length cv) l ?_ aM.out (.slice (some ⟨w.heap.size+1,0,none⟩) 1 1) [0] ?_ aN.out aO.out aB.out ?_;rfl;rfl;intro v1 w1 j D q;rw [aT.out] at j;obtain ⟨o1,k1,rfl,G⟩:=j.shape;have aH:=hid (q.row aP.out (by decide));have c1':=aH.out.cell 1;have aW:=hid j;have C:=hid D;have aK:=hid q;clear j D q)
      | (go_simp;go_at_call 156;refine (ZX p.n l1 (.slice o1 l1.length k1) base w1 hp (Bh aB.out C.out.size) aW.out aV.out).mono ?_;rintro e w2 ⟨v2,rfl,m,E,L⟩;rw [aU.out] at m;obtain ⟨o2,k2,rfl,I⟩:=m.shape;have aX:=hid m;have aC:=hid (C.out.trans E);have HKE2:=hid (aK.out.trans L);clear m E L))
    all_goals
      have ab:=Qm5 l2.length aF;have S:=hid ((aQ.out.mono hb).trans ((((Bi base w0).alloc (show base≤w0.heap.size by omega) (.cells #[.int .u8 0] 5)).drew).trans aC.out))
      by_cases aE:20000<l2.length
      · have e3:decide ((20000:Int)-(l2.length:Int)<0)=true:=by simp;omega
        go_wp2;go_ret2;exact ⟨S.out,.inr (.inl ⟨.inl HK.out,by rw [← T.out];exact aE,rfl⟩)⟩
      · have e3:decide ((20000:Int)-(l2.length:Int)<0)=false:=by simp;omega
        have aR:=hid (show l2.length+([]:Bg).length≤140737488355328 by simp;omega)
        have aS:=hid (show base≤w2.heap.size from Bh hb S.out.size)
        go_wp2_with (at_builtin;refine JU rfl (.tmp 35) (.tmp 36) rfl base _ l2 rfl aX.out _ [] rfl (N:=0) (.inl ⟨rfl,rfl⟩) aR.out aS.out ?_;intro v3 w3 Y aD a5)
        go_ret2;exact ⟨S.out.trans aD,.inr (.inr ⟨.inl HK.out,by rw [← T.out];omega,_,rfl,by rw [← T.out];simpa using Y⟩)⟩
  · have e1:(p.k == 1)=false:=by simp [G]
    have a6:=hid G;clear G
    by_cases I:p.k=2
    · have e2:(p.k == 2)=true:=by simp [I]
      have HK:=hid I;clear I;have hwb:IntKind.u64.wrap (p.b.length:Int)=(p.b.length:Int):=wrap64 _ (by omega)
      go_in
      go_wp2_with fail
      have aM:=hid (show Qq (w0.alloc (.cells #[.int .u8 1] 5)).drew base (.slice ov l.length cv) l from HO.out.alloc _);have aN:=hid (show Bytes (w0.alloc (.cells #[.int .u8 1] 5)).drew (w0.heap.size+1) (.slice (some ⟨w.heap.size+1,0,none⟩) 1 1) [1] by rw [← aL];exact (ZY w0 [1] 5 (0,0) 1 (by simp)).drewN 1)
      have aO:=hid (show l.length+[(1:BitVec 8)].length≤140737488355328 by simp;omega)
      have aB:=hid (show base≤((w0.alloc (.cells #[.int .u8 1] 5)).drew).heap.size by show base≤(w0.alloc (.cells #[.int .u8 1] 5)).heap.size;simp;omega)
      have aP:=hid (show Row ((w0.alloc (.cells #[.int .u8 1] 5)).drew) w.heap.size 184 [Bb p.k,.int .u64 (p.n:Int),.slice ob p.b.length cb] from (a3.out.alloc _));obtain ⟨l1,z⟩:∃ l1,l ++ [1]=l1:=⟨_,rfl⟩;obtain ⟨l2,A⟩:∃ l2,l1 ++ Zk p.b.length=l2:=⟨_,rfl⟩;have aT:=hid z;have aU:=hid A;have M:l1.length≤1000000:=by rw [← z];simp;omega
      have O:l2 ++ p.b=l ++ p.wr:=by rw [← A,← z];simp [Pc.wr,HK.out]
      have aF:l2.length≤1000000:=by have:=Q4 p.b.length (by omega);rw [← A,← z];simp;omega
      have T:=hid O;have aV:=hid M;have a8:=hid (show p.b.length<18446744073709551616 by omega)
      clear z A O M
      go_region_law (first
        | (refine QbZ rfl (.tmp 19) (.tmp 20) rfl base (.slice ov l.length cv) l ?_ aM.out (.slice (some ⟨w.heap.size+1,0,none⟩) 1 1) [1] ?_ aN.out aO.out aB.out ?_;rfl;rfl;intro v1 w1 j D q;rw [aT.out] at j;obtain ⟨o1,k1,rfl,G⟩:=j.shape;have aH:=hid (q.row aP.out (by decide));have c2':=aH.out.cell 2;have aW:=hid j;have C:=hid D;have aK:=hid q;clear j D q)
        | (go_simp;go_at_call 156;refine (ZX p.b.length l1 (.slice o1 l1.length k1) base w1 a8.out (Bh aB.out C.out.size) aW.out aV.out).mono ?_;rintro e w2 ⟨v2,rfl,m,E,L⟩;rw [aU.out] at m;obtain ⟨o2,k2,rfl,I⟩:=m.shape;have aX:=hid m;have aC:=hid (C.out.trans E);have a9:=hid (L.row aH.out (by decide));have c2'':=a9.out.cell 2;clear m E L))
      all_goals
        have ab:=Qm5 l2.length aF;have aJ:=hid (((Bi base w0).alloc (show base≤w0.heap.size by omega) (.cells #[.int .u8 1] 5)).drew.trans aC.out)
        have S:=hid ((aQ.out.mono hb).trans aJ.out);have a4:=hid (aa.out.below (aJ.out.mono hN))
        by_cases aE:20000<l2.length+p.b.length
        · have e3:decide ((20000:Int)-(l2.length:Int)<(p.b.length:Int))=true:=by simp;omega
          go_wp2;go_ret2;exact ⟨S.out,.inr (.inl ⟨.inr HK.out,by rw [← T.out,Br];exact aE,rfl⟩)⟩
        · have e3:decide ((20000:Int)-(l2.length:Int)<(p.b.length:Int))=false:=by simp;omega
          have aR:=hid (show l2.length+p.b.length≤140737488355328 by omega)
          have aS:=hid (show base≤w2.heap.size from Bh hb S.out.size)
          go_wp2_with (at_builtin;refine JU rfl (.tmp 35) (.tmp 36) rfl base _ l2 rfl aX.out _ p.b rfl a4.out aR.out aS.out ?_;intro v3 w3 Y aD a5)
          go_ret2;exact ⟨S.out.trans aD,.inr (.inr ⟨.inr HK.out,by rw [← T.out,Br];omega,_,rfl,by rw [← T.out];exact Y⟩)⟩
    · have e2:(p.k == 2)=false:=by simp [I]
      have a7:=hid I;clear I
      go_in
      go_wp2;go_ret2;exact ⟨aQ.out.mono hb,.inl ⟨by rintro (h | h);exact a6.out h;exact a7.out h,rfl⟩⟩
theorem Qq5 (k:Nat) (m:Bg) (l:List Pc) (p:Pc) (h:l[k]?=some p):QdJ k m (l.drop k) =
    if p.k≠1∧p.k≠2 then .error (1,k) else if 20000<(m ++ p.wr).length then .error (4,k) else QdJ (k+1) (m ++ p.wr) (l.drop (k+1)):=by
  obtain ⟨hk,he⟩:=Bm.1 h;rw [Cs hk,QdJ,he]
theorem Qq.set2 {base:Nat} (h:Qq w base v l) (hg:g<base) (x y:Value):Qq ((w.setCell ⟨g,0,none⟩ x).setCell ⟨g,1,none⟩ y) base v l :=
  h.keep fun k hk=>by rw [Cq _ _ _ _ (show k≠g by omega),Cq _ _ _ _ (show k≠g by omega)]
theorem QdC (l:List Pc) (sv:Value) (N:Nat) (w:World) (hb:JF w N sv l) (hN:N≤w.heap.size) (hlen:l.length<2305843009213693952) (T:∀ p∈l,p.fits) :
    Calls prog 121 #[sv] w fun e w'=>Bd w w' ∧
      ((∃ x v,YC l=.ok x∧e=.returned (.tuple #[v,okV])∧Qq w' w.heap.size v x) ∨
       ∃ c i,YC l=.error (c,i)∧e=.returned (.tuple #[Bc,Qeh c i])):=by
  obtain ⟨oa,ca,rfl,hca⟩:=hb.shape;obtain ⟨w0,O⟩:∃ w0,w.alloc (.cells #[Bb 0,Bb 0] 180)=w0:=⟨_,rfl⟩;have hsz0:w0.heap.size=w.heap.size+1:=by rw [← O];simp
  have aC:=bof O;have G:Row w0 w.heap.size 180 [Bb 0,Bb 0]:=by rw [← O];exact Row.new _ _ _
  have HB:=hid (hb.below (aC.mono hN));have I:=hid aC;have A:=hid G;have aJ:=hid T;clear hb aC G T;generalize hn:l.length=n at *;have HN:=hid hn;clear hn
  by_cases C:200<n
  · have e1:decide ((200:Int)<(n:Int))=true:=by simp;omega
    obtain ⟨c0,c1,z0,z1⟩:=A.out.two
    go_in
    go_wp2;obtain ⟨d0,d1⟩:=A.out.set2 (Bb 5) (Bb 0);refine BG (v:=.tuple #[Bc,Qeh 5 0]) (by simp [results,results121,go_sem,d0,d1,Qeh]) rfl ⟨?_,.inr ⟨5,0,by unfold YC;rw [HN.out,if_pos C],rfl⟩⟩
    exact Qb3 I.out (Bj _) _ _
  · have e1:decide ((200:Int)<(n:Int))=false:=by simp;omega
    have hwn:IntKind.u64.wrap (n:Int)=(n:Int):=wrap64 _ (by omega)
    have aG:=hid (ZX n [] (Bc) w0.heap.size w0 (by omega) (Bj _) (Qq.nil _ _) (by simp))
    go_in
    go_wp2_with fail
    refine aG.out.mono ?_;rintro e w1 ⟨v1,rfl,D,aL,_⟩;have HS:=hid (show Qq w1 w0.heap.size v1 (Zk n)∧Bd w0 w1 from ⟨D,aL⟩);clear D aL aG O
    go_wp2_with fail
    go_loopw [4,18] (fun y i wr=>∃ (k:Nat) (m:Bg),k≤n∧m.length≤20000∧i=Bb (k:Int)∧Hid (Qq wr w0.heap.size y m∧Bd w0 wr∧YC l=QdJ k m (l.drop k))) (fun _ i _=>n-(intOf i).toNat)
    case atStart=>exact ⟨0,Zk n,by omega,by have:=Q4 n (by omega);omega,rfl,HS.out.1,HS.out.2,by unfold YC;rw [HN.out,if_neg C];rfl⟩
    case round =>
      obtain ⟨k,m,hk,hm,rfl,HR⟩:=hrel;obtain ⟨oy,cy,rfl,hcy⟩:=HR.out.1.shape
      by_cases aQ:k<n
      · obtain ⟨p,hp⟩:∃ p,l[k]?=some p:=⟨l[k]'(by rw [HN.out];exact aQ),Bk _⟩
        obtain ⟨b,o,rfl,z⟩:=HB.out.some (by omega)
        obtain ⟨hbN,vb,d0,d1,d2,aF⟩:=z k p hp;obtain ⟨ob,cb,rfl,hcb⟩:=aF.shape;have aD:b<w0.heap.size:=by omega
        have f0:=(HR.out.2.1.cell (p:=⟨b,o+k*3,none⟩) aD).trans d0;have f1:=(HR.out.2.1.cell (p:=⟨b,o+k*3+1,none⟩) aD).trans d1;have f2:=(HR.out.2.1.cell (p:=⟨b,o+k*3+2,none⟩) aD).trans d2;have Y:=HR.out.2.1.size;have aE:=aJ.out p (Bn hp);have aO:=hid (aF.below (HR.out.2.1.mono (show N≤w0.heap.size by omega)))
        have aB:=hid (Qq5 k m l p hp);obtain ⟨w2,S⟩:∃ w2,wr.alloc (.cells #[Bb p.k,.int .u64 (p.n:Int),.slice ob p.b.length cb] 184)=w2:=⟨_,rfl⟩;have L:Below w0.heap.size wr w2:=by rw [← S];exact (Bi _ _).alloc Y _
        have E:Qq w2 w0.heap.size (.slice oy m.length cy) m:=by rw [← S];exact HR.out.1.alloc _
        have aH:=hid (Qgx p m (.slice oy m.length cy) (.slice ob p.b.length cb) w0.heap.size N w2 (Bh Y L.size) E hm aE.1 (aO.out.below (L.mono (by omega))) (by omega) aE.2)
        have aA:=hid (HR.out.2.1.trans L);have aP:=hid S;unfold pcV at aH;clear d0 d1 d2 aF z L E aE hp S;have hlt':(k:Int)<(n:Int):=by omega
        go_wp2_with fail
        rw [aP.out];refine aH.out.mono ?_;rintro e w3 ⟨M,⟨aM,rfl⟩ | ⟨aM,hbig,rfl⟩ | ⟨aM,hsm,v',rfl,hown3⟩⟩
        · have q:=hid (aA.out.trans M)
          have j:=hid (A.out.below q.out (by omega))
          obtain ⟨c0,c1,z0,z1⟩:=j.out.two;go_wp2;obtain ⟨d0,d1⟩:=j.out.set2 (Bb 1) (Bb (k:Int));refine BG (v:=.tuple #[Bc,Qeh 1 k]) (by simp [results,results121,go_sem,d0,d1,Qeh]) rfl ⟨?_,.inr ⟨1,k,by rw [HR.out.2.2,aB.out,if_pos (by omega)],rfl⟩⟩
          exact Qb3 (I.out.trans (q.out.mono (by omega))) (Bj _) _ _
        · have q:=hid (aA.out.trans M)
          have j:=hid (A.out.below q.out (by omega))
          obtain ⟨c0,c1,z0,z1⟩:=j.out.two;have aI:=hid hbig;clear hbig;go_wp2;obtain ⟨d0,d1⟩:=j.out.set2 (Bb 4) (Bb (k:Int));refine BG (v:=.tuple #[Bc,Qeh 4 k]) (by simp [results,results121,go_sem,d0,d1,Qeh]) rfl ⟨?_,.inr ⟨4,k,by rw [HR.out.2.2,aB.out,if_neg (by omega),if_pos aI.out],rfl⟩⟩
          exact Qb3 (I.out.trans (q.out.mono (by omega))) (Bj _) _ _
        · have q:=hid (aA.out.trans M)
          have aN:=hid hown3;have aK:=hid hsm;clear hown3 M hsm
          go_wp2_with fail
          refine ⟨⟨k+1,m ++ p.wr,by omega,aK.out,by go_num,aN.out,q.out,?_⟩,by simp [intOf];omega⟩
          rw [HR.out.2.2,aB.out,if_neg (by omega),if_neg (by have:=aK.out;omega)]
      · have hge:decide ((k:Int)<(n:Int))=false:=by simp;omega
        have j:=hid (A.out.below HR.out.2.1 (by omega))
        obtain ⟨c0,c1,z0,z1⟩:=j.out.two;go_wp2;obtain ⟨d0,d1⟩:=j.out.set2 (Bb 0) (Bb 0);refine BG (v:=.tuple #[.slice oy m.length cy,okV]) (by simp [results,results121,go_sem,d0,d1,okV]) rfl ⟨?_,.inl ⟨m,_,by rw [HR.out.2.2,CI (by rw [HN.out];omega),QdJ],rfl,?_⟩⟩
        · exact Qb3 (I.out.trans (HR.out.2.1.mono (by omega))) (Bj _) _ _
        · exact (Qq.set2 HR.out.1 (show w.heap.size<w0.heap.size by omega) _ _).mono (by omega)
end Go.Proofs.YtnedafiokmjkkaaGreatDoor
