/-
  What a state is, what is wrong with one, and its book.
-/
import Derived.Test.YtbgdpfeobklnhaaGreatDoorcvClMem
import Derived.Test.YtbgdpfeobklnhaaGreatDoorcvPairsAll
import Derived.Test.YtbgdpfeobklnhaaGreatDoorcvBookMath
import Derived.Test.YtbgdpfeobklnhaaGreatDoorcvBookTree
import Derived.Test.YtbgdpfeobklnhaaGreatDoorcvShaAll
import Derived.Test.YtbgdpfeobklnhaaGreatDoorcvSameB
import Derived.Test.YtbgdpfeobklnhaaGreatDoorcvWireBoth
import Derived.Lib.ItoaNum
import Derived.Lib.BytesEntry
import Derived.Lib.Bytealg
import Derived.Laws.Externs
import Derived.Lib.SliceRun
namespace Go.Proofs.YtbgdpfeobklnhaaGreatDoor
open Go.RowKit
structure Cn where
 state:Int
 client:Int
 oclient:Int
 oconn:Int
structure Ch where
 state:Int
 ordered:Bool
 conn:Int
 ochan:Int
 send:Int
 recv:Int
 ack:Int
structure Mk where
 chan:Int
 seq:Int
 dig:List (BitVec 8)
structure Pu where
 owner:ByteArray
 denom:ByteArray
 amount:Nat
structure St where
 name:ByteArray
 height:Int
 time:Int
 clients:List Cl
 conns:List Cn
 chans:List Ch
 sent:List Mk
 got:List Mk
 acks:List Mk
 purses:List Pu
def St.none:St:=⟨⟨#[]⟩,0,0,[],[],[],[],[],[],[]⟩
def Mk.fits (m:Mk):Prop:=m.dig.length≤140737488351232
def Pu.fits (p:Pu):Prop:=p.owner.size≤140737488351232∧p.denom.size≤140737488351232∧p.amount<18446744073709551616
def St.fits (s:St):Prop:=s.name.size≤140737488351232∧(s.clients.length<2305843009213693952∧∀ c∈s.clients,c.fits)∧s.conns.length<2305843009213693952∧s.chans.length<2305843009213693952 ∧
 (s.sent.length<2305843009213693952∧∀ m∈s.sent,m.fits)∧(s.got.length<2305843009213693952∧∀ m∈s.got,m.fits)∧(s.acks.length<2305843009213693952∧∀ m∈s.acks,m.fits)∧s.purses.length<2305843009213693952∧∀ p∈s.purses,p.fits
def Qn (lo n:Int):Bool:=decide (lo≤n) && decide (n≤1000000000000)
theorem YN (lo n:Int):Qn lo n=true↔lo≤n∧n≤1000000000000:=by simp [Qn]
def Qo (c:Cn):Int:=if c.state<1∨3<c.state then 1 else if (Qn 0 c.client && (Qn 0 c.oclient && Qn (-1) c.oconn))=false then 3 else 0
def Qm (c:Ch):Int:=if c.state<1∨4<c.state then 1 else if (Qn 0 c.conn && (Qn (-1) c.ochan && (Qn 1 c.send && (Qn 1 c.recv && Qn 1 c.ack))))=false then 3 else 0
def Qw (m:Mk):Int:=if (Qn 0 m.chan && Qn 1 m.seq)=false then 3 else if m.dig.length≠32 then 2 else 0
def QO (a b:Mk):Bool:=decide (a.chan<b.chan∨a.chan=b.chan∧a.seq<b.seq)
def QbR (s:ByteArray):Bool:=decide (1≤s.size) && decide (s.size≤40)
def QA (p:Pu):Int:=if (QbR p.owner && QbR p.denom)=false then 4 else if p.amount=0 then 3 else 0
def QcX (a b:ByteArray):Bool:=Op.bytesLess a.toList b.toList
def Ja (a b:Pu):Bool:=QcX a.owner b.owner || (decide (a.owner=b.owner) && QcX a.denom b.denom)
def Qf {α:Type} (f:α→Int):List α→Int
 | []=>0
 | x :: r=>if f x≠0 then f x else Qf f r
def J9 {α:Type} (lt:α→α→Bool):Option α→α→Bool
 | none,_=>true
 | some a,x=>lt a x
def YG {α:Type} (f:α→Int) (lt:α→α→Bool) (p:Option α):List α→Int
 | []=>0
 | x :: r=>if f x≠0 then f x else if J9 lt p x=false then 2 else YG f lt (some x) r
def orN:List Int→Int
 | []=>0
 | x :: r=>if x≠0 then x else orN r
def Qcg (s:St):Bool:=decide (4<s.clients.length∨8<s.conns.length∨8<s.chans.length∨50<s.sent.length∨50<s.got.length∨50<s.acks.length∨60<s.purses.length)
def Qp (l:List Mk):Int:=YG Qw QO none l
def QE (l:List Pu):Int:=YG QA Ja none l
def Ym (s:St):Int:=orN [Qf Qg s.clients,Qf Qo s.conns,Qf Qm s.chans,Qp s.sent,Qp s.got,Qp s.acks,QE s.purses]
def Qk (s:St):Int:=if JI s.name=false then 7 else if (Qn 0 s.height && Qn 0 s.time)=false then 3 else if Qcg s=true then 5 else Ym s
theorem Qaf {α:Type} (f:α→Int):∀ (l:List α),Qf f l=0↔∀ x∈l,f x=0
 | []=>by simp [Qf]
 | x :: r=>by
  rw [Qf]
  by_cases h:f x=0
  ·rw [if_neg (by simp [h]),Qaf f r];simp [h]
  ·rw [if_pos h];simp [h]
theorem Qev:∀ (l:List Int),orN l=0↔∀ x∈l,x=0
 | []=>by simp [orN]
 | x :: r=>by
  rw [orN]
  by_cases h:x=0
  ·rw [if_neg (by simp [h]),Qev r];simp [h]
  ·rw [if_pos h];simp [h]
theorem Qer {a b c:Mk} (h1:QO a b=true) (h2:QO b c=true):QO a c=true:=by
 simp [QO] at *;omega
theorem Qg2 {α:Type} {f:α→Int} {lt:α→α→Bool} (ht:∀ a b c,lt a b=true→lt b c=true→lt a c=true):∀ (l:List α) (p:Option α),YG f lt p l=0→(∀ x∈l,f x=0)∧(∀ a,p=some a→∀ x∈l,lt a x=true)∧l.Pairwise fun a b=>lt a b=true
 | [],_,_=>⟨fun _ h=>(by cases h),fun _ _ _ h=>(by cases h),List.Pairwise.nil⟩
 | x :: r,p,h=>by
  rw [YG] at h
  by_cases h1:f x=0
  ·rw [if_neg (by simp [h1])] at h
   cases h2:J9 lt p x with
   | false=>rw [h2,if_pos rfl] at h;cases h
   | true =>
    rw [h2,if_neg (by simp)] at h
    obtain ⟨g1,g2,g3⟩:=Qg2 ht r (some x) h
    refine ⟨fun y hy=>?_,fun a ha y hy=>?_,List.pairwise_cons.2 ⟨g2 x rfl,g3⟩⟩
    ·rcases List.mem_cons.1 hy with rfl | hy
     ·exact h1
     ·exact g1 y hy
    ·subst ha
     have hx:lt a x=true:=h2
     rcases List.mem_cons.1 hy with rfl | hy
     ·exact hx
     ·exact ht _ _ _ hx (g2 x rfl y hy)
  ·rw [if_pos h1] at h;exact absurd h h1
structure Qkw (s:St):Prop where
 many:s.conns.length≤8∧s.chans.length≤8∧s.sent.length≤50∧s.got.length≤50∧s.acks.length≤50
 conns:∀ c∈s.conns,Qo c=0
 chans:∀ c∈s.chans,Qm c=0
 sent:(∀ m∈s.sent,Qw m=0)∧s.sent.Pairwise fun a b=>QO a b=true
 got:(∀ m∈s.got,Qw m=0)∧s.got.Pairwise fun a b=>QO a b=true
 acks:(∀ m∈s.acks,Qw m=0)∧s.acks.Pairwise fun a b=>QO a b=true
theorem Qb4 {l:List Mk} (h:Qp l=0):(∀ m∈l,Qw m=0)∧l.Pairwise fun a b=>QO a b=true :=
 have:=Qg2 (f:=Qw) (lt:=QO) (fun _ _ _ h1 h2=>Qer h1 h2) l none h
 ⟨this.1,this.2.2⟩
theorem YD {s:St} (h:Qk s=0):Qkw s:=by
 unfold Qk at h
 split at h
 ·cases h
 split at h
 ·cases h
 split at h
 ·cases h
 rename_i hm
 have hm':¬ (4<s.clients.length∨8<s.conns.length∨8<s.chans.length∨50<s.sent.length∨50<s.got.length∨50<s.acks.length∨60<s.purses.length):=fun e=>hm (decide_eq_true e)
 have h':=(Qev _).1 h
 simp only [List.mem_cons,List.not_mem_nil,or_false,forall_eq_or_imp,forall_eq] at h'
 obtain ⟨_,h2,h3,h4,h5,h6,_⟩:=h'
 exact ⟨by omega,(Qaf _ _).1 h2,(Qaf _ _).1 h3,Qb4 h4,Qb4 h5,Qb4 h6⟩
def Yr (n:Nat):List (BitVec 8):=(Lib.decDigits n).map fun x=>x.toBitVec
theorem Qae {n:Nat} (h:n<10):Yr n=[BitVec.ofNat 8 (48+n)]:=by unfold Yr;rw [Lib.decDigits,dif_pos h];rfl
theorem QeU {n:Nat} (h:¬ n<10):Yr n=Yr (n / 10) ++ [BitVec.ofNat 8 (48+n % 10)]:=by unfold Yr;rw [Lib.decDigits,dif_neg h,List.map_append];rfl
theorem Zr:∀ (k n:Nat),n<10 ^ (k+1)→(Yr n).length≤k+1
 | 0,n,h=>by rw [Qae (by simpa using h)];simp
 | k+1,n,h=>by
  by_cases h1:n<10
  ·rw [Qae h1];simp
  ·rw [QeU h1,List.length_append]
   have:=Zr k (n / 10) (by rw [Nat.pow_succ] at h;omega)
   simp;omega
def Zd (k:List (BitVec 8)):List Nat→List (BitVec 8)
 | []=>k
 | n :: l=>k ++ 47 :: Zd (Yr n) l
def ZH (n:Int):Pc:=⟨1,n.toNat,[]⟩
def ZI (l:List Int):List (BitVec 8):=J7 l.length ++ wrs (l.map ZH)
def QkC (c:Cn):List (BitVec 8):=ZI [c.state,c.client,c.oclient,c.oconn+1]
def JC (c:Ch):List (BitVec 8):=ZI [c.state,if c.ordered=true then 1 else 0,c.conn,c.ochan+1]
def Qj8:List (BitVec 8):=[99,111,110,110]
def Yy:List (BitVec 8):=[99,104,97,110]
def Qj9:List (BitVec 8):=[110,101,120,116]
def Qka:List (BitVec 8):=[115,101,110,116]
def QkI:List (BitVec 8):=[103,111,116]
def QkH:List (BitVec 8):=[97,99,107]
def QkE (x:Cn×Nat):Dg:=⟨Zd Qj8 [x.2],QkC x.1,false⟩
def QkD (x:Ch×Nat):List Dg:=[⟨Zd Yy [x.2],JC x.1,false⟩,⟨Zd Qj9 [x.2],ZI [x.1.recv],false⟩]
def Qii (k:List (BitVec 8)) (m:Mk):Dg:=⟨Zd k [m.chan.toNat,m.seq.toNat],m.dig,false⟩
def QkR (s:St):List Dg:=s.conns.zipIdx.map QkE ++ (s.chans.zipIdx.flatMap QkD ++ (s.sent.map (Qii Qka) ++ (s.got.map (Qii QkI) ++ s.acks.map (Qii QkH))))
theorem Qcx (l:List Int) (hl:l.length≤4) (hn:∀ n∈l,n.toNat<18446744073709551616):ZN (l.map ZH)=.ok (ZI l)∧(ZI l).length≤60:=by
 have hw:∀ (m:List Int),(∀ n∈m,n.toNat<18446744073709551616)→(wrs (m.map ZH)).length≤11*m.length:=by
  intro m
  induction m with
  | nil=>intro _;simp [wrs]
  | cons a m ih =>
   intro h
   have h1:=ih (fun n hn=>h n (List.mem_cons_of_mem _ hn))
   have h2:=JD a.toNat (h a List.mem_cons_self)
   have e:wrs ((a :: m).map ZH)=(0 :: J7 a.toNat) ++ wrs (m.map ZH):=by simp [wrs,ZH,Pc.wr]
   rw [e,List.length_append,List.length_cons,List.length_cons]
   omega
 have h1:=hw l hn
 have h2:=JD l.length (by omega)
 have h3:(ZI l).length≤60:=by unfold ZI;rw [List.length_append];omega
 refine ⟨?_,h3⟩
 unfold ZN
 rw [if_neg (by rw [List.length_map];omega),List.length_map,QjK _ _ _ (fun p hp=>by obtain ⟨n,_,rfl⟩:=List.mem_map.1 hp;exact .inl rfl) (by have:=h3;unfold ZI at this;omega)]
 rfl
theorem Qdp {c:Cn} (h:Qo c=0):(1≤c.state∧c.state≤3)∧(0≤c.client∧c.client≤1000000000000)∧(0≤c.oclient∧c.oclient≤1000000000000)∧(-1≤c.oconn∧c.oconn≤1000000000000):=by
 unfold Qo at h
 split at h
 ·cases h
 split at h
 ·cases h
 rename_i h1 h2
 simp only [Bool.not_eq_false,Bool.and_eq_true,YN] at h2
 exact ⟨by omega,h2.1,h2.2.1,h2.2.2⟩
theorem Qbn {c:Ch} (h:Qm c=0):(1≤c.state∧c.state≤4)∧(0≤c.conn∧c.conn≤1000000000000)∧(-1≤c.ochan∧c.ochan≤1000000000000)∧(1≤c.send∧c.send≤1000000000000)∧(1≤c.recv∧c.recv≤1000000000000)∧(1≤c.ack∧c.ack≤1000000000000):=by
 unfold Qm at h
 split at h
 ·cases h
 split at h
 ·cases h
 rename_i h1 h2
 simp only [Bool.not_eq_false,Bool.and_eq_true,YN] at h2
 exact ⟨by omega,h2.1,h2.2.1,h2.2.2.1,h2.2.2.2.1,h2.2.2.2.2⟩
end Go.Proofs.YtbgdpfeobklnhaaGreatDoor
