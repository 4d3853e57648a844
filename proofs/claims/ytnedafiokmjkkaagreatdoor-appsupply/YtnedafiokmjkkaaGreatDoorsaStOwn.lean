/- Lists of records in memory of a call's own; a state whose li. -/
import Derived.Test.YtnedafiokmjkkaaGreatDoorsaBookTree
import Derived.Test.YtnedafiokmjkkaaGreatDoorsaClMem
import Derived.Laws.BytesArg
import Derived.Lib.Bytes
import Derived.Lib.BytesEntry
import Derived.Lib.Bytealg
import Derived.Laws.Externs
import Derived.Lib.ItoaNum
namespace Go.Proofs.YtnedafiokmjkkaaGreatDoor
open Tryz
open Go.RowKit
variable {w w':World} {B N g i k n:Nat} {sv v v1 v2 v3 v4 v5 v6 v7:Value} {l:List (BitVec 8)} {t:TypeId} {rs:List (List Value)} {r:List Value} {F Z:Nat→Prop}
theorem QbN (h:Bytes w N sv l):(convert 29 9 sv).run prog w=.ok (.string (strOfNums (l.map b8))) w:=by
 have zero:∀ (p:Option Addr) (c:Nat),(convert 29 9 (.slice p 0 c)).run prog w=.ok (.string (strOfNums [])) w:=fun p c=>by
  rw [run_convert_bytes_string w 29 9 5 _ 0 c underlying29 underlying5 underlying9]
  cases p <;> simp [Conv.bytesToString]
  all_goals rfl
 rcases h with ⟨rfl,rfl⟩ | ⟨a,e,rfl,rfl⟩ | ⟨b,j,e,rfl,_,hc⟩
 ·simp_all
 ·simp_all
 ·refine run_convert_bytes_arg w 29 5 underlying29 underlying5 b j l.length e (l.map b8) (by simp) (fun i hi=>?_) 9 underlying9
  rw [(hc i hi).2];simp [hi]
theorem Qvu {x y:BitVec 8} (h:UInt8.ofNat (b8 x).toNat=UInt8.ofNat (b8 y).toNat):x=y:=by
 have:=Bl UInt8.toNat h;unfold b8 at this;simp at this;exact DA (by omega)
theorem Qo6: ∀ {l m:Bg},(l.map b8).map (fun n=>UInt8.ofNat n.toNat)=(m.map b8).map (fun n=>UInt8.ofNat n.toNat)→l=m
 | [],[],_=>rfl
 | [],_ :: _,h=>by simp at h
 | _ :: _,[],h=>by simp at h
 | x :: l,y :: m,h=>by
  simp only [CG,BL] at h;rw [Qvu h.1,Qo6 h.2]
theorem Qvr (l m:Bg):((strOfNums (l.map b8)).toList == (strOfNums (m.map b8)).toList)=decide (l=m):=by
 by_cases e:l=m
 ·simp_all
 ·rw [BD e]
  rw [beq_eq_false_iff_ne];intro h;refine e (Qo6 ?_);rw [Lib.strOfNums_toList,Lib.strOfNums_toList] at h;exact h
theorem YD (l m:Bg) (sa sb:Value) (N M:Nat) (w:World) (ha:Bytes w N sa l) (hb:Bytes w M sb m) :
  Calls prog 144 #[sa,sb] w fun e w'=>e=.returned (.bool (decide (l=m)))∧w'=w:=by
 have h1:=QbN ha;have h2:=QbN hb;have HE:=hid (Qvr l m)
 go_in
 go_wp2_with (simp only [h1])
 go_ret;exact ⟨by rw [HE.out];rfl,rfl⟩
theorem Qha (l:Bg) (sv:Value) (N:Nat) (w:World) (h:Bytes w N sv l) (hl:l.length≤140737488351232) :
  Calls prog 102 #[sv] w fun e w'=>Bd w w'∧∃ v,e=.returned v∧Qq w' w.heap.size v l:=by
 have q:∀ (w:World) (a:Option Addr) (n c n' c':Nat),(binOp .eql 29 (.slice a n c) (.slice none n' c')).run prog w=.ok (.bool a.isNone) w:=fun w a n c n' c'=>Lib.run_eql_slice_nil w _ _ a n c n' c' underlying29
 obtain ⟨oa,ca,rfl,E⟩:=h.shape
 cases oa with
 | none =>
  obtain ⟨rfl,rfl⟩:l=[]∧ca=0:=by
   rcases h with ⟨h1,h2⟩ | ⟨a,c,h1,_⟩ | ⟨b,o,c,h1,_⟩
   ·exact ⟨h2,by simp at h1;exact h1.2⟩
   ·simp at h1
   ·simp at h1
  go_in
  go_wp2;go_ret;exact ⟨Bi _ _,_,rfl,Qq.nil _ _⟩
 | some a =>
  obtain ⟨w1,m⟩:∃ w1,w.alloc (.cells #[] 5)=w1:=⟨_,rfl⟩;have j:=bof m
  have z:Qq w1 w.heap.size (.slice (some ⟨w.heap.size,0,none⟩) 0 0) []:=by
   refine ⟨rfl,.inr ⟨w.heap.size,0,#[],rfl,Bj _,?_,Bj _,by simp [maxLen],rfl,rfl⟩⟩
   rw [← m];exact BT _ _
  have A:Bytes w1 w1.heap.size (.slice (some a) l.length ca) l:=by
   rcases h with ⟨h1,_⟩ | ⟨a',c,h1,h2⟩ | ⟨b,o,c,h1,h2,h3⟩
   ·simp at h1
   ·subst h2
    exact .inr (.inl ⟨a,ca,rfl,rfl⟩)
   ·refine .inr (.inr ⟨b,o,ca,by simp at h1;rw [h1.1],E,fun i hi=>?_⟩)
    have hb:=CE (h3 i hi).2;exact ⟨Bt hb j.size,(j.cell hb).trans (h3 i hi).2⟩
  have HO:=hid z;have HS:=hid A;have HB:=hid j;have HL:=hid hl;have C:=hid j.size;have D:=hid m;clear h hl z A j m;generalize hn:l.length=n at *;have HN:=hid hn;clear hn
  go_in
  go_wp2_with (at_builtin;rw [D.out];refine JU rfl (.tmp 5) (.tmp 6) rfl w.heap.size _ [] rfl HO.out _ l rfl HS.out (by have:=HL.out;rw [List.length_nil,HN.out];omega) C.out ?_;intro v' w' g1 g2 g3;have G1:=hid g1;have G2:=hid g2;clear g1 g2 g3)
  go_ret;exact ⟨HB.out.trans G2.out,_,rfl,G1.out⟩
theorem Qk7 (l m:Bg) (k:Nat) (hl:k<l.length) (hm:k<m.length) (h:l.take k=m.take k) (hx:l.getD k 0=m.getD k 0):l.take (k+1)=m.take (k+1):=by grind [List.take_succ_eq_append_getElem]
def Qkr (a b:Bg):Int:=if QaB a b=true then -1 else if QaB b a=true then 1 else 0
theorem QlA (a b:Bg):Qkr a b<0↔QaB a b=true:=by
 unfold Qkr
 split
 ·simp [*]
 ·split <;> simp [*]
def Qop (x:BitVec 8):UInt8:=(b8 x).toNat.toUInt8
theorem QuE (x y:BitVec 8):Qop x<Qop y↔x.toNat<y.toNat:=by
 have hx:=x.isLt;have hy:=y.isLt;unfold Qop b8;rw [UInt8.lt_iff_toNat_lt];simp
theorem QeN:∀ a b:Bg,Lib.compareBytes (a.map Qop) (b.map Qop)=Qkr a b
 | [],[]=>rfl
 | [],_ :: _=>rfl
 | _ :: _,[]=>rfl
 | x :: a,y :: b=>by
  have ih:=QeN a b;rw [CG,CG,Lib.compareBytes,ih];unfold Qkr;rw [QaB,QaB]
  by_cases e:x=y
  ·subst e
   simp [UInt8.lt_irrefl]
  ·have e':¬ y=x:=fun h=>e h.symm
   rw [if_neg e,if_neg e'];simp only [QuE,BR]
   by_cases h1:x.toNat<y.toNat
   ·simp [h1]
   ·have h2:y.toNat<x.toNat:=by
     rcases Nat.lt_or_ge y.toNat x.toNat with h | h
     ·exact h
     ·exact absurd (DA (by omega)) e
    simp [h1,h2]
theorem Qjh (h:Bytes w N sv l):(Extern.Bytes.bytesOf sv).run prog w=.ok ⟨(l.map Qop).toArray⟩ w:=by
 rcases Qb5 h with ⟨rfl,rfl⟩ | ⟨ad,cap,rfl,hc⟩
 ·rfl
 ·have hl:=Lib.run_loadBytesX (P:=prog) w (l.map b8) ad .empty (fun j x hj=>by
   obtain ⟨y,hy,rfl⟩:∃ y,l[j]?=some y∧b8 y=x:=by simpa using hj
   exact hc j _ (by rw [Bs,hy];rfl))
  rw [Bp] at hl
  show (Extern.Bytes.loadBytes ad l.length .empty).run prog w=_
  rw [hl]
  congr 2
  simp [Lib.bytesOf,Qop,Function.comp_def]
theorem QlC {sa sb:Value} {m:Bg} (ha:Bytes w N sa l) (hb:Bytes w g sb m):(callFunc 260 #[sa,sb]).run prog w=.ok (.value (Bb (Qkr l m))) w:=by
 rw [Ed func260 (by kernel_rfl) (by kernel_rfl) (by kernel_rfl) (e:=Extern.BytealgCompare.compare) (by kernel_rfl)]
 have:(Extern.BytealgCompare.compare #[sa,sb]).run prog w=.ok (Bb (Qkr l m)) w:=by
  change Sem.run prog (do pure (goInt (Extern.BytealgCompare.cmp (← Extern.Bytes.bytesOf sa) (← Extern.Bytes.bytesOf sb)))) w=_
  simp only [CF,CN,Result.andThen,Qjh ha,Qjh hb];rw [Lib.cmp_eq];simp only [QeN];rfl
 rw [this];rfl
theorem Qf5 (l m:Bg) (sa sb:Value) (N M:Nat) (w:World) (ha:Bytes w N sa l) (hb:Bytes w M sb m) :
  Calls prog 238 #[sa,sb] w fun e w'=>e=.returned (Bb (Qkr l m))∧w'=w:=by
 obtain ⟨oa,ca,rfl,hca⟩:=ha.shape;obtain ⟨ob,cb,rfl,hcb⟩:=hb.shape;have hc:=QlC ha hb;clear ha hb;generalize l.length=n at *;generalize m.length=n' at *
 go_in
 go_wp2_with (simp only [hc])
 go_ret;exact ⟨rfl,rfl⟩
structure Cn where
 state:Int
 client:Int
 oclient:Int
 oconn:Int
structure Ch where
 state:Int
 ordered:Bool
 conn:Int
 ochan:Int
 send:Int
 recv:Int
 ack:Int
structure Mk where
 chan:Int
 seq:Int
 dig:Bg
structure Pu where
 owner:ByteArray
 denom:ByteArray
 amount:Nat
structure St where
 name:ByteArray
 height:Int
 time:Int
 clients:List Cl
 conns:List Cn
 chans:List Ch
 sent:List Mk
 got:List Mk
 acks:List Mk
 purses:List Pu
def St.none:St:=⟨⟨#[]⟩,0,0,[],[],[],[],[],[],[]⟩
def Mk.fits (m:Mk):Prop:=m.dig.length≤140737488351232
def Pu.fits (p:Pu):Prop:=p.owner.size≤140737488351232∧p.denom.size≤140737488351232∧p.amount<18446744073709551616
def St.fits (s:St):Prop:=s.name.size≤140737488351232∧(s.clients.length<2305843009213693952∧∀ c∈s.clients,c.fits)∧s.conns.length<2305843009213693952∧s.chans.length<2305843009213693952 ∧
 (s.sent.length<2305843009213693952∧∀ m∈s.sent,m.fits)∧(s.got.length<2305843009213693952∧∀ m∈s.got,m.fits)∧(s.acks.length<2305843009213693952∧∀ m∈s.acks,m.fits)∧s.purses.length<2305843009213693952∧∀ p∈s.purses,p.fits
variable {s:St}
def Qs (lo n:Int):Bool:=decide (lo≤n) && decide (n≤1000000000000)
theorem Q6 (lo n:Int):Qs lo n=true↔lo≤n∧n≤1000000000000:=by simp [Qs]
def Ji (c:Cn):Int:=if c.state<1∨3<c.state then 1 else if (Qs 0 c.client && (Qs 0 c.oclient && Qs (-1) c.oconn))=false then 3 else 0
def Q1 (c:Ch):Int:=if c.state<1∨4<c.state then 1 else if (Qs 0 c.conn && (Qs (-1) c.ochan && (Qs 1 c.send && (Qs 1 c.recv && Qs 1 c.ack))))=false then 3 else 0
def JV (m:Mk):Int:=if (Qs 0 m.chan && Qs 1 m.seq)=false then 3 else if m.dig.length≠32 then 2 else 0
def Qw (a b:Mk):Bool:=decide (a.chan<b.chan∨a.chan=b.chan∧a.seq<b.seq)
def QH (s:ByteArray):Bool:=decide (1≤s.size) && decide (s.size≤40)
def Qcy (p:Pu):Int:=if (QH p.owner && QH p.denom)=false then 4 else if p.amount=0 then 3 else 0
def QjG (a b:ByteArray):Bool:=Op.bytesLess a.toList b.toList
def QO (a b:Pu):Bool:=QjG a.owner b.owner || (decide (a.owner=b.owner) && QjG a.denom b.denom)
def Jw {α:Type} (f:α→Int):List α→Int
 | []=>0
 | x :: r=>if f x≠0 then f x else Jw f r
def QaH {α:Type} (lt:α→α→Bool):Option α→α→Bool
 | none,_=>true
 | some a,x=>lt a x
def Qdj {α:Type} (f:α→Int) (lt:α→α→Bool) (p:Option α):List α→Int
 | []=>0
 | x :: r=>if f x≠0 then f x else if QaH lt p x=false then 2 else Qdj f lt (some x) r
def orN:List Int→Int
 | []=>0
 | x :: r=>if x≠0 then x else orN r
def QaC (s:St):Bool:=decide (4<s.clients.length∨8<s.conns.length∨8<s.chans.length∨50<s.sent.length∨50<s.got.length∨50<s.acks.length∨60<s.purses.length)
def QP (l:List Mk):Int:=Qdj JV Qw none l
def QaM (l:List Pu):Int:=Qdj Qcy QO none l
def Qjo (s:St):Int:=orN [Jw Qy s.clients,Jw Ji s.conns,Jw Q1 s.chans,QP s.sent,QP s.got,QP s.acks,QaM s.purses]
def Qd (s:St):Int:=if Zc s.name=false then 7 else if (Qs 0 s.height && Qs 0 s.time)=false then 3 else if QaC s=true then 5 else Qjo s
theorem Yu {α:Type} (f:α→Int):∀ (l:List α),Jw f l=0↔∀ x∈l,f x=0
 | []=>by simp [Jw]
 | x :: r=>by
  rw [Jw]
  by_cases h:f x=0
  ·rw [if_neg (by simp [h]),Yu f r];simp [h]
  ·rw [if_pos h];simp [h]
theorem JG: ∀ (l:List Int),orN l=0↔∀ x∈l,x=0
 | []=>by simp [orN]
 | x :: r=>by
  rw [orN]
  by_cases h:x=0
  ·rw [if_neg (by simp [h]),JG r];simp [h]
  ·rw [if_pos h];simp [h]
theorem Qci {a b c:Mk} (h1:Qw a b=true) (h2:Qw b c=true):Qw a c=true:=by grind [Qw]
theorem Qlb {α:Type} {f:α→Int} {lt:α→α→Bool} (ht:∀ a b c,lt a b=true→lt b c=true→lt a c=true):∀ (l:List α) (p:Option α),Qdj f lt p l=0→(∀ x∈l,f x=0)∧(∀ a,p=some a→∀ x∈l,lt a x=true)∧l.Pairwise fun a b=>lt a b=true
 | [],_,_=>⟨fun _ h=>(by cases h),fun _ _ _ h=>(by cases h),List.Pairwise.nil⟩
 | x :: r,p,h=>by
  rw [Qdj] at h
  by_cases h1:f x=0
  ·rw [if_neg (by simp [h1])] at h
   cases h2:QaH lt p x with
   | false=>rw [h2,if_pos rfl] at h;cases h
   | true =>
    rw [h2,if_neg (by simp)] at h
    obtain ⟨g1,g2,g3⟩:=Qlb ht r (some x) h;refine ⟨fun y hy=>?_,fun a ha y hy=>?_,CL.2 ⟨g2 x rfl,g3⟩⟩
    ·rcases Bo.1 hy with rfl | hy
     ·exact h1
     ·exact g1 y hy
    ·subst ha
     have hx:lt a x=true:=h2
     rcases Bo.1 hy with rfl | hy
     ·exact hx
     ·exact ht _ _ _ hx (g2 x rfl y hy)
  ·rw [if_pos h1] at h;exact absurd h h1
structure QvM (s:St):Prop where
 many:s.conns.length≤8∧s.chans.length≤8∧s.sent.length≤50∧s.got.length≤50∧s.acks.length≤50
 conns:∀ c∈s.conns,Ji c=0
 chans:∀ c∈s.chans,Q1 c=0
 sent:(∀ m∈s.sent,JV m=0)∧s.sent.Pairwise fun a b=>Qw a b=true
 got:(∀ m∈s.got,JV m=0)∧s.got.Pairwise fun a b=>Qw a b=true
 acks:(∀ m∈s.acks,JV m=0)∧s.acks.Pairwise fun a b=>Qw a b=true
theorem Y5 {l:List Mk} (h:QP l=0):(∀ m∈l,JV m=0)∧l.Pairwise fun a b=>Qw a b=true:=by grind [QP,Qlb,Qci]
theorem QB (h:Qd s=0):QvM s:=by
 unfold Qd at h
 split at h
 ·cases h
 split at h
 ·cases h
 split at h
 ·cases h
 rename_i hm;have hm':¬ (4<s.clients.length∨8<s.conns.length∨8<s.chans.length∨50<s.sent.length∨50<s.got.length∨50<s.acks.length∨60<s.purses.length):=fun e=>hm (BB e)
 have h':=(JG _).1 h;simp only [Bo,Cu] at h';obtain ⟨_,h2,h3,h4,h5,h6,_⟩:=h';exact ⟨by omega,(Yu _ _).1 h2,(Yu _ _).1 h3,Y5 h4,Y5 h5,Y5 h6⟩
def Zi (n:Nat):Bg:=(Lib.decDigits n).map fun x=>x.toBitVec
theorem Qca (h:n<10):Zi n=[BitVec.ofNat 8 (48+n)]:=by unfold Zi;rw [Lib.decDigits,dif_pos h];rfl
theorem QlL (h:¬ n<10):Zi n=Zi (n / 10) ++ [BitVec.ofNat 8 (48+n % 10)]:=by unfold Zi;rw [Lib.decDigits,dif_neg h,Cc];rfl
theorem Zj:∀ (k n:Nat),n<10 ^ (k+1)→(Zi n).length≤k+1
 | 0,n,h=>by rw [Qca (by simpa using h)];simp
 | k+1,n,h=>by
  by_cases h1:n<10
  ·rw [Qca h1];simp
  ·rw [QlL h1,Br]
   have:=Zj k (n / 10) (by omega)
   simp;omega
def Jt (k:Bg):List Nat→Bg
 | []=>k
 | n :: l=>k ++ 47 :: Jt (Zi n) l
def ZU (n:Int):Pc:=⟨1,n.toNat,[]⟩
def ZK (l:List Int):Bg:=Zk l.length ++ wrs (l.map ZU)
def QcY (c:Cn):Bg:=ZK [c.state,c.client,c.oclient,c.oconn+1]
def QcV (c:Ch):Bg:=ZK [c.state,if c.ordered=true then 1 else 0,c.conn,c.ochan+1]
def Qa4:Bg:=[99,111,110,110]
def Qek:Bg:=[99,104,97,110]
def Qel:Bg:=[110,101,120,116]
def QhC:Bg:=[115,101,110,116]
def QhB:Bg:=[103,111,116]
def QhA:Bg:=[97,99,107]
def QvV (x:Cn×Nat):Dg:=⟨Jt Qa4 [x.2],QcY x.1,false⟩
def QvU (x:Ch×Nat):List Dg:=[⟨Jt Qek [x.2],QcV x.1,false⟩,⟨Jt Qel [x.2],ZK [x.1.recv],false⟩]
def QrQ (k:Bg) (m:Mk):Dg:=⟨Jt k [m.chan.toNat,m.seq.toNat],m.dig,false⟩
def Qv6 (s:St):List Dg:=s.conns.zipIdx.map QvV ++ (s.chans.zipIdx.flatMap QvU ++ (s.sent.map (QrQ QhC) ++ (s.got.map (QrQ QhB) ++ s.acks.map (QrQ QhA))))
theorem QgI (l:List Int) (hl:l.length≤4) (hn:∀ n∈l,n.toNat<18446744073709551616):YC (l.map ZU)=.ok (ZK l)∧(ZK l).length≤60:=by
 have hw:∀ (m:List Int),(∀ n∈m,n.toNat<18446744073709551616)→(wrs (m.map ZU)).length≤11*m.length:=by
  intro m
  induction m with
  | nil=>intro _;simp [wrs]
  | cons a m ih =>
   intro h;have h1:=ih (fun n hn=>h n (Cr _ hn))
   have h2:=Q4 a.toNat (h a Ci);have e:wrs ((a :: m).map ZU)=(0 :: Zk a.toNat) ++ wrs (m.map ZU):=by simp [wrs,ZU,Pc.wr]
   rw [e,Br,Cy,Cy];omega
 have h1:=hw l hn;have h2:=Q4 l.length (by omega)
 have h3:(ZK l).length≤60:=by unfold ZK;rw [Br];omega
 refine ⟨?_,h3⟩;unfold YC;rw [if_neg (by rw [Bp];omega),Bp,Qfv _ _ _ (fun p hp=>by obtain ⟨n,_,rfl⟩:=BC.1 hp;exact .inl rfl) (by have:=h3;unfold ZK at this;omega)]
 rfl
theorem Zv {c:Cn} (h:Ji c=0):(1≤c.state∧c.state≤3)∧(0≤c.client∧c.client≤1000000000000)∧(0≤c.oclient∧c.oclient≤1000000000000)∧(-1≤c.oconn∧c.oconn≤1000000000000):=by grind [Ji,Q6]
theorem Jy {c:Ch} (h:Q1 c=0):(1≤c.state∧c.state≤4)∧(0≤c.conn∧c.conn≤1000000000000)∧(-1≤c.ochan∧c.ochan≤1000000000000)∧(1≤c.send∧c.send≤1000000000000)∧(1≤c.recv∧c.recv≤1000000000000)∧(1≤c.ack∧c.ack≤1000000000000):=by
 unfold Q1 at h
 split at h
 ·cases h
 split at h
 ·cases h
 rename_i h1 h2;simp only [Bool.not_eq_false,BX,Q6] at h2;exact ⟨by omega,h2.1,h2.2.1,h2.2.2.1,h2.2.2.2.1,h2.2.2.2.2⟩
theorem QoD {m:Mk} (h:JV m=0):(0≤m.chan∧m.chan≤1000000000000)∧(1≤m.seq∧m.seq≤1000000000000)∧m.dig.length=32:=by grind [JV,Q6]
def Qt {α:Type} (R:World→Nat→List Value→α→Prop) (k:Nat) (w:World) (N:Nat) (sv:Value) (l:List α):Prop :=
 ∃ rs:List (List Value),rs.length=l.length∧Ja w N sv k rs∧∀ (i:Nat) r x,rs[i]?=some r→l[i]?=some x→R w N r x
structure QaY {α:Type} (R:World→Nat→List Value→α→Prop):Prop where
 below:∀ {w w':World} {N:Nat} {r:List Value} {x:α},R w N r x→Below N w w'→R w' N r x
 mono:∀ {w:World} {N M:Nat} {r:List Value} {x:α},R w N r x→N≤M→R w M r x
theorem Qt.below {α:Type} {R:World→Nat→List Value→α→Prop} {k:Nat} {w w':World} {N:Nat} {sv:Value} {l:List α} (hR:QaY R) (h:Qt R k w N sv l) (hg:Below N w w'):Qt R k w' N sv l:=by
 obtain ⟨rs,h1,h2,h3⟩:=h;exact ⟨rs,h1,h2.below hg,fun i r x hr hx=>hR.below (h3 i r x hr hx) hg⟩
theorem Qt.mono {α:Type} {R:World→Nat→List Value→α→Prop} {k:Nat} {w:World} {N M:Nat} {sv:Value} {l:List α} (hR:QaY R) (h:Qt R k w N sv l) (hN:N≤M):Qt R k w M sv l:=by
 obtain ⟨rs,h1,h2,h3⟩:=h;exact ⟨rs,h1,h2.mono hN,fun i r x hr hx=>hR.mono (h3 i r x hr hx) hN⟩
theorem Qt.shape {α:Type} {R:World→Nat→List Value→α→Prop} {k:Nat} {w:World} {N:Nat} {sv:Value} {l:List α} (h:Qt R k w N sv l):∃ oa b,sv=.slice oa l.length b∧l.length≤b:=by
 obtain ⟨rs,h1,h2,-⟩:=h;obtain ⟨oa,b,h4,h5⟩:=h2.shape;exact ⟨oa,b,by rw [h4,h1],by omega⟩
theorem Qt.nil {α:Type} (R:World→Nat→List Value→α→Prop) (k:Nat) (w:World) (N:Nat):Qt R k w N (Bc) []:=⟨[],rfl,.inl ⟨rfl,rfl⟩,fun i r x h=>by simp at h⟩
theorem Qt.spot {α:Type} {R:World→Nat→List Value→α→Prop} {k:Nat} {w:World} {N:Nat} {oa:Option Addr} {n q:Nat} {l:List α} (h:Qt R k w N (.slice oa n q) l) (hl:0<n) :
  ∃ b m,oa=some ⟨b,m,none⟩∧∀ (i:Nat) x,l[i]?=some x→b<N∧∃ r,R w N r x∧∀ (j:Nat) v,r[j]?=some v→w.cell? ⟨b,m+i*k+j,none⟩=some v:=by
 obtain ⟨rs,h1,h2,h3⟩:=h;obtain ⟨b,m,e,hc⟩:=h2.spot hl;refine ⟨b,m,e,fun i x hx=>?_⟩
 have hi:i<rs.length:=by grind
 obtain ⟨r,hr⟩:∃ r,rs[i]?=some r:=⟨_,Bk hi⟩;obtain ⟨g1,g2⟩:=hc i r hr;exact ⟨g1,r,h3 i r x hr hx,g2⟩
def Q5 (c:Cn):List Value:=[Bb c.state,Bb c.client,Bb c.oclient,Bb c.oconn]
def Qr (c:Ch):List Value:=[Bb c.state,.bool c.ordered,Bb c.conn,Bb c.ochan,Bb c.send,Bb c.recv,Bb c.ack]
def YO (p:Pu):List Value:=[.string p.owner,.string p.denom,.int .u64 (p.amount:Int)]
def CnR (_:World) (_:Nat) (r:List Value) (c:Cn):Prop:=r=Q5 c
def ChR (_:World) (_:Nat) (r:List Value) (c:Ch):Prop:=r=Qr c
def PuR (_:World) (_:Nat) (r:List Value) (p:Pu):Prop:=r=YO p
def MkR (w:World) (N:Nat) (r:List Value) (m:Mk):Prop:=∃ v,r=[Bb m.chan,Bb m.seq,v]∧Bytes w N v m.dig
def ClR (w:World) (N:Nat) (r:List Value) (c:Cl):Prop:=∃ kv,r=[.string c.chain,Bb c.trust,.bool c.frozen,kv]∧Jj w N kv c.known
theorem CnR.stays: QaY CnR:=by grind [QaY,CnR]
theorem ChR.stays: QaY ChR:=by grind [QaY,ChR]
theorem PuR.stays: QaY PuR:=by grind [QaY,PuR]
theorem MkR.stays: QaY MkR:=⟨fun ⟨v,h1,h2⟩ hg=>⟨v,h1,h2.below hg⟩,fun ⟨v,h1,h2⟩ hg=>⟨v,h1,h2.mono hg⟩⟩
theorem ClR.stays: QaY ClR:=⟨fun ⟨v,h1,h2⟩ hg=>⟨v,h1,h2.below hg⟩,fun ⟨v,h1,h2⟩ hg=>⟨v,h1,h2.mono hg⟩⟩
structure Zw (w:World) (N:Nat) (s:St) (v1 v2 v3 v4 v5 v6 v7:Value):Prop where
 clients:Qt ClR 4 w N v1 s.clients
 conns:Qt CnR 4 w N v2 s.conns
 chans:Qt ChR 7 w N v3 s.chans
 sent:Qt MkR 3 w N v4 s.sent
 got:Qt MkR 3 w N v5 s.got
 acks:Qt MkR 3 w N v6 s.acks
 purses:Qt PuR 3 w N v7 s.purses
theorem Zw.below (h:Zw w N s v1 v2 v3 v4 v5 v6 v7) (hg:Below N w w'):Zw w' N s v1 v2 v3 v4 v5 v6 v7 :=
 ⟨h.clients.below ClR.stays hg,h.conns.below CnR.stays hg,h.chans.below ChR.stays hg,h.sent.below MkR.stays hg,h.got.below MkR.stays hg,h.acks.below MkR.stays hg,h.purses.below PuR.stays hg⟩
theorem Zw.mono (h:Zw w N s v1 v2 v3 v4 v5 v6 v7) (hN:N≤g):Zw w g s v1 v2 v3 v4 v5 v6 v7 :=
 ⟨h.clients.mono ClR.stays hN,h.conns.mono CnR.stays hN,h.chans.mono ChR.stays hN,h.sent.mono MkR.stays hN,h.got.mono MkR.stays hN,h.acks.mono MkR.stays hN,h.purses.mono PuR.stays hN⟩
def StV (w:World) (N:Nat) (v:Value) (s:St):Prop:=∃ v1 v2 v3 v4 v5 v6 v7,v=.agg #[.string s.name,Bb s.height,Bb s.time,v1,v2,v3,v4,v5,v6,v7]∧Zw w N s v1 v2 v3 v4 v5 v6 v7
theorem StV.below (h:StV w N v s) (hg:Below N w w'):StV w' N v s:=by
 obtain ⟨v1,v2,v3,v4,v5,v6,v7,e,h⟩:=h;exact ⟨v1,v2,v3,v4,v5,v6,v7,e,h.below hg⟩
theorem StV.mono (h:StV w N v s) (hN:N≤g):StV w g v s:=by
 obtain ⟨v1,v2,v3,v4,v5,v6,v7,e,h⟩:=h;exact ⟨v1,v2,v3,v4,v5,v6,v7,e,h.mono hN⟩
theorem StV.open (h:StV w N v s):∃ o1 c1 o2 c2 o3 c3 o4 c4 o5 c5 o6 c6 o7 c7,v=.agg #[.string s.name,Bb s.height,Bb s.time,.slice o1 s.clients.length c1,.slice o2 s.conns.length c2,.slice o3 s.chans.length c3,.slice o4 s.sent.length c4,.slice o5 s.got.length c5,.slice o6 s.acks.length c6,.slice o7 s.purses.length c7] ∧
  Zw w N s (.slice o1 s.clients.length c1) (.slice o2 s.conns.length c2) (.slice o3 s.chans.length c3) (.slice o4 s.sent.length c4) (.slice o5 s.got.length c5) (.slice o6 s.acks.length c6) (.slice o7 s.purses.length c7):=by
 obtain ⟨v1,v2,v3,v4,v5,v6,v7,rfl,h⟩:=h;obtain ⟨o1,c1,rfl,-⟩:=h.clients.shape;obtain ⟨o2,c2,rfl,-⟩:=h.conns.shape;obtain ⟨o3,c3,rfl,-⟩:=h.chans.shape;obtain ⟨o4,c4,rfl,-⟩:=h.sent.shape;obtain ⟨o5,c5,rfl,-⟩:=h.got.shape;obtain ⟨o6,c6,rfl,-⟩:=h.acks.shape;obtain ⟨o7,c7,rfl,-⟩:=h.purses.shape;exact ⟨_,_,_,_,_,_,_,_,_,_,_,_,_,_,rfl,h⟩
theorem QrS (rs:List (List Value)) (h:∀ r∈rs,r.length=k) (i:Nat) (r:List Value) (hi:i<rs.length) (hr:r.length=k):(rs.set i r).flatten=QaO rs.flatten (i*k) r:=by
 rw [List.set_eq_take_append_cons_drop,if_pos hi,CX,CH,Qce rs h,Qcd rs h];unfold QaO;rw [hr,BJ,Cj]
theorem Qf.put {base c:Nat} (h:Qf t k w base (.slice (some ⟨g,0,none⟩) n c) rs) (hi:i<rs.length) (hr:r.length=k∧∀ x∈r,x.oneCell'=true) :
  Qf t k (w.setCells g (i*k) r) base (.slice (some ⟨g,0,none⟩) n c) (rs.set i r):=by
 obtain ⟨h0,h1,h2⟩:=h
 have hk:∀ r'∈rs.set i r,r'.length=k:=fun x hx=>by
  rcases Di hx with hx | rfl
  ·exact (h0 x hx).1
  ·exact hr.1
 refine ⟨fun x hx=>?_,YE _ hk,?_⟩
 ·rcases Di hx with hx | rfl
  ·exact h0 x hx
  ·exact hr
 ·rcases h2 with ⟨h3,h4⟩ | ⟨g',cap,b,h3,h4,h5,h6,h7,h8,h9⟩
  ·cases h3
  ·simp only [DH,C4,Dx] at h3
   obtain ⟨⟨rfl,-,-⟩,rfl,rfl⟩:=h3;have m:i*k+k≤rs.length*k:=by have:=Ct k hi;rw [BJ] at this;exact this
   have hck:rs.length*k≤c*k:=Ct k h6;have e:b.toList.length=c*k:=by simpa using h8
   have j:=Row.setCells r (i*k) w b.toList (show Row w g t b.toList by unfold Row;simpa using h5) (by rw [hr.1,e];omega)
   refine .inr ⟨g,c,(QaO b.toList (i*k) r).toArray,by rw [C5],h4,j,by rw [C5];exact h6,h7,?_,?_⟩
   ·rw [D5,YU _ _ _ (by rw [hr.1,e];omega),e]
   ·rw [C5,QrS rs (fun r hr=>(h0 r hr).1) i r hi hr.1,← h9]
    show (QaO b.toList (i*k) r).take (rs.length*k)=_
    rw [QbU _ _ _ (by omega) _ (by rw [hr.1];exact m)]
    unfold QaO;rw [List.take_take,DI (by omega),List.drop_take]
theorem JP {a:World} (hg:B≤g):∀ (vs:List Value) (o:Nat) (w:World),Below B a w→Below B a (w.setCells g o vs)
 | [],_,_,h=>h
 | v :: vs,o,w,h=>JP hg vs (o+1) (w.setCell ⟨g,o,none⟩ v) (h.setCell hg v)
theorem QbD (g:Nat):∀ (vs:List Value) (o:Nat) (w:World) (k:Nat),k≠g→(w.setCells g o vs).heap[k]?=w.heap[k]?
 | [],_,_,_,_=>rfl
 | v :: vs,o,w,k,h=>(QbD g vs (o+1) (w.setCell ⟨g,o,none⟩ v) k h).trans (DM _ _ _ _ h)
theorem Q3 (w:World) (g o:Nat) (vs:List Value):w.grownBy (w.setCells g o vs) (some g) :=
 have h:=JP (by omega) vs o w (Bi 0 w)
 ⟨h.os,h.tape,h.output,h.size,fun k _ b=>QbD g vs o w k (fun e=>b (by rw [e]))⟩
def QM (F:Nat→Prop) (w:World) (P:World→Prop):Prop:=(∀ k,F k→k<w.heap.size)∧∀ w2,Below 0 w w2→(∀ k,F k→w2.heap[k]?=w.heap[k]?)→P w2
theorem QM.now {P:World→Prop} (h:QM F w P):P w:=h.2 w (Bi _ _) (fun _ _=>rfl)
theorem QM.on {w2:World} {P:World→Prop} (h:QM F w P) (hb:Below 0 w w2) (hk:∀ k,F k→w2.heap[k]?=w.heap[k]?):QM F w2 P :=
 ⟨fun k hF=>Bt (h.1 k hF) hb.size,fun w3 h3 b=>h.2 w3 (hb.trans h3) (fun k hF=>(b k hF).trans (hk k hF))⟩
theorem QM.below {w2:World} {P:World→Prop} (h:QM F w P) (hb:Bd w w2):QM F w2 P:=h.on (hb.mono (by omega)) (fun k hF=>hb.block k (h.1 k hF))
theorem Qcf {w2:World} {r:Option Nat} (hg:w.grownBy w2 r):Below 0 w w2:=⟨hg.os,hg.tape,hg.output,hg.size,fun _ hk=>absurd hk (by omega)⟩
theorem QM.grown {w2:World} {P:World→Prop} (h:QM F w P) {r:Option Nat} (hg:w.grownBy w2 r) (hr:∀ k,r=some k→¬ F k):QM F w2 P :=
 h.on (Qcf hg) (fun k hF=>hg.block k (h.1 k hF) (fun e=>hr k e.symm hF))
theorem QM.set {P:World→Prop} (h:QM F w P) (hg:¬ F g) (o:Nat) (r:List Value):QM F (w.setCells g o r) P :=
 h.on (JP (by omega) r o w (Bi 0 w)) (fun k hF=>QbD g r o w k (fun e=>hg (e ▸ hF)))
theorem QM.wide {P:World→Prop} (h:QM F w P) (hFG:∀ k,F k→Z k) (hG:∀ k,Z k→k<w.heap.size):QM Z w P:=by grind [QM]
theorem Qt.held {α:Type} {R:World→Nat→List Value→α→Prop} (hR:QaY R) {k N:Nat} {w:World} {v:Value} {l:List α} (h:Qt R k w N v l) (hN:N≤w.heap.size):QM (fun b=>b<N) w (fun w2=>Qt R k w2 w2.heap.size v l) :=
 ⟨fun _ hb=>Bt hb hN,fun _ hb hk=>(h.below hR ⟨hb.os,hb.tape,hb.output,hb.size,hk⟩).mono hR (Bh hN hb.size)⟩
def Qrp {α:Type} (c:α→List Value) (_:World) (_:Nat) (r:List Value) (x:α):Prop:=r=c x
def JA {α:Type} (t:TypeId) (c:α→List Value) (k:Nat) (w:World) (base:Nat) (v:Value) (l:List α):Prop:=Qf t k w base v (l.map c)
theorem JA.held {α:Type} {t:TypeId} {c:α→List Value} {k:Nat} {w:World} {base:Nat} {v:Value} {l:List α} (h:JA t c k w base v l):QM (fun b=>v.ownBlock=some b) w (fun w2=>Qt (Qrp c) k w2 w2.heap.size v l) :=
 ⟨fun b hb=>(h.own b hb).2,fun w2 _ hk=>⟨l.map c,by rw [Bp],(Qf.keep h (fun g hg=>hk g hg)).recs,fun i r x hr hx=>by
  rw [Bs,hx] at hr
  exact (Bu hr).symm⟩⟩
theorem Qem {α:Type} {c:α→List Value} {k:Nat} {w:World} {N:Nat} {v:Value} {l:List α} (h:Qt (Qrp c) k w N v l):Ja w N v k (l.map c):=by
 obtain ⟨rs,h1,h2,h3⟩:=h
 have:rs=l.map c:=by
  refine CP fun i=>?_
  rw [Bs]
  cases hl:l[i]? with
  | none =>
   have:rs.length≤i:=by simp_all
   rw [Dr this];rfl
  | some x =>
   have hi:i<rs.length:=by grind
   obtain ⟨r,hr⟩:∃ r,rs[i]?=some r:=⟨_,Bk hi⟩;rw [hr,h3 i r x hr hl];rfl
 rw [← this];exact h2
theorem JA.below {α:Type} {t:TypeId} {c:α→List Value} {k:Nat} {w w':World} {base:Nat} {v:Value} {l:List α} (h:JA t c k w base v l) (hg:Bd w w'):JA t c k w' base v l:=Qf.below h hg
theorem Qjy {k:Nat}:∀ (rs:List (List Value)) (i j:Nat) (r:List Value) (x:Value),(∀ r∈rs,r.length=k)→rs[i]?=some r→j<k→(rs.set i (r.set j x)).flatten=rs.flatten.set (i*k+j) x
 | [],i,j,r,x,_,h,_=>by simp at h
 | a :: rs,i,j,r,x,hk,h,hj=>by
  have ha:=hk a Ci
  cases i with
  | zero =>
   obtain rfl:a=r:=by simp_all
   rw [List.set_cons_zero,CH,CH,CR,Bq,List.set_append_left _ _ (by omega)]
  | succ i =>
   rw [List.set_cons_succ,CH,CH,Qjy rs i j r x (fun r hr=>hk r (Cr _ hr)) (by simpa using h) hj,Db _ _ (by rw [ha,BJ];omega),ha,show (i+1)*k+j-k=i*k+j by rw [BJ];omega]
theorem Qf.putCell {base c j:Nat} {x:Value} (h:Qf t k w base (.slice (some ⟨g,0,none⟩) n c) rs) (hi:rs[i]?=some r) (hj:j<k) (hx:x.oneCell'=true) :
  Qf t k (w.setCell ⟨g,i*k+j,none⟩ x) base (.slice (some ⟨g,0,none⟩) n c) (rs.set i (r.set j x)):=by
 obtain ⟨h0,h1,h2⟩:=h;have hil:i<rs.length:=(Bm.1 hi).1;have m:=h0 r (Bn hi)
 have b:∀ r'∈rs.set i (r.set j x),r'.length=k∧∀ y∈r',y.oneCell'=true:=fun y hy=>by
  rcases Di hy with hy | rfl
  ·exact h0 y hy
  ·refine ⟨by rw [C5];exact m.1,fun u hu=>?_⟩
   rcases Di hu with hu | rfl
   ·exact m.2 u hu
   ·exact hx
 refine ⟨b,YE _ (fun r hr=>(b r hr).1),?_⟩
 rcases h2 with ⟨h3,h4⟩ | ⟨g',cap,e,h3,h4,h5,h6,h7,h8,h9⟩
 ·cases h3
 ·simp only [DH,C4,Dx] at h3
  obtain ⟨⟨rfl,-,-⟩,rfl,rfl⟩:=h3;have q:=Row.set (show Row w g t e.toList by unfold Row;simpa using h5) (i*k+j) x
  refine .inr ⟨g,c,(e.toList.set (i*k+j) x).toArray,by rw [C5],h4,q,by rw [C5];exact h6,h7,?_,?_⟩
  ·simpa using h8
  ·rw [C5,Qjy rs i j r x (fun r hr=>(h0 r hr).1) hi hj,← h9]
   show (e.toList.set (i*k+j) x).take (rs.length*k)=_
   rw [List.take_set]
def Yl {α:Type} (t:TypeId) (R:World→Nat→List Value→α→Prop) (k N base:Nat) (w:World) (v:Value) (l:List α):Prop :=
 ∃ rs:List (List Value),rs.length=l.length∧Qf t k w base v rs∧∀ (i:Nat) r x,rs[i]?=some r→l[i]?=some x→QM (fun b=>some b≠v.ownBlock∧(b<N∨base≤b)∧b<w.heap.size) w (fun w2=>R w2 w2.heap.size r x)
theorem Yl.shape {α:Type} {t:TypeId} {R:World→Nat→List Value→α→Prop} {k N base:Nat} {w:World} {v:Value} {l:List α} (h:Yl t R k N base w v l):∃ oa b,v=.slice oa l.length b∧l.length≤b:=by
 obtain ⟨rs,h1,h2,_⟩:=h;rw [← h1];exact h2.shape
theorem Yl.held {α:Type} {t:TypeId} {R:World→Nat→List Value→α→Prop} {k N base:Nat} {w:World} {v:Value} {l:List α} (h:Yl t R k N base w v l):QM (fun b=>(b<N∨base≤b)∧b<w.heap.size) w (fun w2=>Qt R k w2 w2.heap.size v l):=by
 obtain ⟨rs,h1,h2,h3⟩:=h;refine ⟨fun b hb=>hb.2,fun w2 hb hk=>⟨rs,h1,(h2.keep fun g hg=>hk g ⟨.inr (h2.own g hg).1,(h2.own g hg).2⟩).recs,fun i r x hr hx=>(h3 i r x hr hx).2 w2 hb fun b hF=>hk b hF.2⟩⟩
theorem Yl.below {α:Type} {t:TypeId} {R:World→Nat→List Value→α→Prop} {k N base:Nat} {w w':World} {v:Value} {l:List α} (h:Yl t R k N base w v l) (hg:Bd w w'):Yl t R k N base w' v l:=by
 obtain ⟨rs,h1,h2,h3⟩:=h;exact ⟨rs,h1,h2.below hg,fun i r x hr hx=>((h3 i r x hr hx).below hg).wide (fun b hF=>⟨hF.1,hF.2.1,Bt hF.2.2 hg.size⟩) (fun b hF=>hF.2.2)⟩
theorem Yl.new {α:Type} {t:TypeId} {R:World→Nat→List Value→α→Prop} (hR:QaY R) {k N base:Nat} {w w':World} {v':Value} {l:List α} {rs:List (List Value)} (h0:rs.length=l.length) (h:Qf t k w' base v' rs) (hm:∀ (i:Nat) r x,rs[i]?=some r→l[i]?=some x→R w N r x) (hN:N≤base) (q:N≤w.heap.size) (hb:Bd w w'):Yl t R k N base w' v' l :=
 ⟨rs,h0,h,fun i r x hr hx=>⟨fun b hF=>hF.2.2,fun w2 j hk=>hR.mono (hR.below (hm i r x hr hx) ⟨j.os.trans hb.os,j.tape.trans hb.tape,j.output.trans hb.output,Bh hb.size j.size,fun b z=>by
  have m:b<w.heap.size:=Bt z q;refine (hk b ⟨fun e=>?_,.inl z,Bt m hb.size⟩).trans (hb.block b m)
  have:=(h.own b e.symm).1
  omega⟩) (Bh q (Bh hb.size j.size))⟩⟩
theorem Yl.put {α:Type} {t:TypeId} {R:World→Nat→List Value→α→Prop} {k N base g n c i:Nat} {w w':World} {l:List α} {rs:List (List Value)} {r:List Value} {x:α} (h0:rs.length=l.length)
  (h3:∀ (i:Nat) r x,rs[i]?=some r→l[i]?=some x→QM (fun b=>b≠g∧(b<N∨base≤b)∧b<w.heap.size) w (fun w2=>R w2 w2.heap.size r x)) (hx:l[i]?=some x)
  (hr:QM (fun b=>b≠g∧(b<N∨base≤b)∧b<w.heap.size) w (fun w2=>R w2 w2.heap.size r x)) (hg:w.grownBy w' (some g)) (h:Qf t k w' base (.slice (some ⟨g,0,none⟩) n c) (rs.set i r)):Yl t R k N base w' (.slice (some ⟨g,0,none⟩) n c) l:=by
 have W:∀ (P:World→Prop),QM (fun b=>b≠g∧(b<N∨base≤b)∧b<w.heap.size) w P→QM (fun b=>some b≠(Value.slice (some ⟨g,0,none⟩) n c).ownBlock∧(b<N∨base≤b)∧b<w'.heap.size) w' P:=fun P hP =>
  (hP.grown hg (fun b e hF=>hF.1 (Bu e).symm)).wide (fun b hF=>⟨fun e=>hF.1 (Bu e),hF.2.1,Bt hF.2.2 hg.size⟩) (fun b hF=>hF.2.2)
 refine ⟨rs.set i r,by rw [C5];exact h0,h,fun j r' y m hy=>?_⟩
 by_cases e:i=j
 ·subst e
  have q:i<rs.length:=by rw [h0];exact (Bm.1 hx).1
  rw [Dy q] at m;obtain rfl:=Bu m;obtain rfl:=Bu (hx.symm.trans hy);exact W _ hr
 ·rw [BZ e] at m
  exact W _ (h3 j r' y m hy)
def Jp (N base:Nat) (w:World) (s:St) (v1 v2 v3 v4 v5 v6 v7:Value):Prop :=
 ∃ F:Nat→Nat→Prop,(∀ i b,F i b→b<N∨base≤b) ∧
  QM (F 1) w (fun w2=>Qt ClR 4 w2 w2.heap.size v1 s.clients) ∧
  JA 82 Q5 4 w base v2 s.conns∧JA 86 Qr 7 w base v3 s.chans ∧
  QM (F 4) w (fun w2=>Qt MkR 3 w2 w2.heap.size v4 s.sent)∧QM (F 5) w (fun w2=>Qt MkR 3 w2 w2.heap.size v5 s.got)∧QM (F 6) w (fun w2=>Qt MkR 3 w2 w2.heap.size v6 s.acks) ∧
  JA 70 YO 3 w base v7 s.purses ∧
  (∀ b,v2.ownBlock=some b→F 2 b∧∀ i,i≠2→¬ F i b)∧(∀ b,v3.ownBlock=some b→F 3 b∧∀ i,i≠3→¬ F i b)∧(∀ b,v7.ownBlock=some b→F 7 b∧∀ i,i≠7→¬ F i b)
theorem Jp.mem {base:Nat} (h:Jp N base w s v1 v2 v3 v4 v5 v6 v7):Zw w w.heap.size s v1 v2 v3 v4 v5 v6 v7:=by
 obtain ⟨F,_,h1,h2,h3,h4,h5,h6,h7,_⟩:=h;exact ⟨h1.now,h2.held.now,h3.held.now,h4.now,h5.now,h6.now,h7.held.now⟩
theorem Jp.conns {base:Nat} (h:Jp N base w s v1 v2 v3 v4 v5 v6 v7):JA 82 Q5 4 w base v2 s.conns:=by grind [Jp]
theorem Jp.chans {base:Nat} (h:Jp N base w s v1 v2 v3 v4 v5 v6 v7):JA 86 Qr 7 w base v3 s.chans:=by grind [Jp]
theorem JA.keep {α:Type} {t:TypeId} {c:α→List Value} {k:Nat} {w w':World} {base:Nat} {v:Value} {l:List α} (h:JA t c k w base v l) (hk:∀ g,v.ownBlock=some g→w'.heap[g]?=w.heap[g]?):JA t c k w' base v l:=Qf.keep h hk
theorem Jp.on {base:Nat} (h:Jp N base w s v1 v2 v3 v4 v5 v6 v7) (hb:Below 0 w w') (hk:∀ b,b<w.heap.size→b<N∨base≤b→w'.heap[b]?=w.heap[b]?):Jp N base w' s v1 v2 v3 v4 v5 v6 v7:=by
 obtain ⟨F,h0,h1,h2,h3,h4,h5,h6,h7,k2,k3,k7⟩:=h;have H:∀ (i:Nat) (P:World→Prop),QM (F i) w P→QM (F i) w' P:=fun i P hP=>hP.on hb (fun b hF=>hk b (hP.1 b hF) (h0 i b hF))
 exact ⟨F,h0,H _ _ h1,h2.keep fun b e=>hk b (h2.own b e).2 (h0 2 b (k2 b e).1),h3.keep fun b e=>hk b (h3.own b e).2 (h0 3 b (k3 b e).1),H _ _ h4,H _ _ h5,H _ _ h6,h7.keep fun b e=>hk b (h7.own b e).2 (h0 7 b (k7 b e).1),k2,k3,k7⟩
theorem Jp.below {base:Nat} (h:Jp N base w s v1 v2 v3 v4 v5 v6 v7) (hb:Bd w w'):Jp N base w' s v1 v2 v3 v4 v5 v6 v7 :=
 h.on (hb.mono (by omega)) (fun b e _=>hb.block b e)
theorem Jp.setCell {base:Nat} (h:Jp N base w s v1 v2 v3 v4 v5 v6 v7) {a:Addr} (ha:N≤a.block) (hb:a.block<base) (x:Value):Jp N base (w.setCell a x) s v1 v2 v3 v4 v5 v6 v7 :=
 h.on ((Bi 0 w).setCell (BF _) x) (fun b _ hlt=>DM _ _ _ _ (by omega))
theorem Jp.putConns {base:Nat} (h:Jp N base w s v1 v2 v3 v4 v5 v6 v7) {j:Value} {l:List Cn} (hg:w.grownBy w' v2.ownBlock) (hl:JA 82 Q5 4 w' base j l) (hn:∀ b,j.ownBlock=some b→v2.ownBlock=some b∨w.heap.size≤b) :
  Jp N base w' { s with conns:=l } v1 j v3 v4 v5 v6 v7:=by
 obtain ⟨F,h0,h1,h2,h3,h4,h5,h6,h7,k2,k3,k7⟩:=h
 have A:∀ i b,(i=1∨i=4∨i=5∨i=6)→F i b→b<w.heap.size:=fun i b hi hF=>by
  rcases hi with rfl | rfl | rfl | rfl
  ·exact h1.1 b hF
  ·exact h4.1 b hF
  ·exact h5.1 b hF
  ·exact h6.1 b hF
 refine ⟨fun i b=>(i=2∧j.ownBlock=some b)∨(i=3∧v3.ownBlock=some b)∨(i=7∧v7.ownBlock=some b)∨((i=1∨i=4∨i=5∨i=6)∧F i b),fun i b hF=>?_,?_⟩
 ·rcases hF with ⟨rfl,e⟩ | ⟨rfl,e⟩ | ⟨rfl,e⟩ | ⟨_,hF⟩
  ·exact .inr (hl.own b e).1
  ·exact h0 3 b (k3 b e).1
  ·exact h0 7 b (k7 b e).1
  ·exact h0 i b hF
 ·have H:∀ (i:Nat) (P:World→Prop),(i=1∨i=4∨i=5∨i=6)→QM (F i) w P→QM (fun b=>(i=2∧j.ownBlock=some b)∨(i=3∧v3.ownBlock=some b)∨(i=7∧v7.ownBlock=some b)∨((i=1∨i=4∨i=5∨i=6)∧F i b)) w' P:=fun i P hi hP=>by
   have q:=hP.grown hg (fun b e=>(k2 b e).2 i (by omega))
   exact q.wide (fun b hF=>.inr (.inr (.inr ⟨hi,hF⟩))) (fun b hF=>by
    rcases hF with ⟨rfl,_⟩ | ⟨rfl,_⟩ | ⟨rfl,_⟩ | ⟨_,hF⟩
    ·omega
    ·omega
    ·omega
    ·exact q.1 b hF)
  have n3:∀ b,v3.ownBlock=some b→some b≠v2.ownBlock:=fun b e e2=>(k3 b e).2 2 (by omega) (k2 b e2.symm).1
  have n7:∀ b,v7.ownBlock=some b→some b≠v2.ownBlock:=fun b e e2=>(k7 b e).2 2 (by omega) (k2 b e2.symm).1
  have z:∀ b,v3.ownBlock=some b→v7.ownBlock≠some b:=fun b e e2=>(k3 b e).2 7 (by omega) (k7 b e2).1
  refine ⟨H 1 _ (.inl rfl) h1,hl,h3.keep fun b e=>hg.block b (h3.own b e).2 (n3 b e),H 4 _ (.inr (.inl rfl)) h4,H 5 _ (.inr (.inr (.inl rfl))) h5,H 6 _ (.inr (.inr (.inr rfl))) h6,h7.keep fun b e=>hg.block b (h7.own b e).2 (n7 b e),fun b e=>⟨.inl ⟨rfl,e⟩,fun i hi hF=>?_⟩,fun b e=>⟨.inr (.inl ⟨rfl,e⟩),fun i hi hF=>?_⟩,fun b e=>⟨.inr (.inr (.inl ⟨rfl,e⟩)),fun i hi hF=>?_⟩⟩
  ·rcases hF with ⟨rfl,_⟩ | ⟨rfl,e'⟩ | ⟨rfl,e'⟩ | ⟨m,hF⟩
   ·exact hi rfl
   ·rcases hn b e with e2 | hge
    ·exact n3 b e' e2.symm
    ·have:=(h3.own b e').2;omega
   ·rcases hn b e with e2 | hge
    ·exact n7 b e' e2.symm
    ·have:=(h7.own b e').2;omega
   ·rcases hn b e with e2 | hge
    ·exact (k2 b e2).2 i (by omega) hF
    ·have:=A i b m hF;omega
  ·rcases hF with ⟨rfl,e'⟩ | ⟨rfl,e'⟩ | ⟨rfl,e'⟩ | ⟨m,hF⟩
   ·rcases hn b e' with e2 | hge
    ·exact n3 b e e2.symm
    ·have:=(h3.own b e).2;omega
   ·exact hi rfl
   ·exact z b e e'
   ·exact (k3 b e).2 i (by omega) hF
  ·rcases hF with ⟨rfl,e'⟩ | ⟨rfl,e'⟩ | ⟨rfl,e'⟩ | ⟨m,hF⟩
   ·rcases hn b e' with e2 | hge
    ·exact n7 b e e2.symm
    ·have:=(h7.own b e).2;omega
   ·exact z b e' e
   ·exact hi rfl
   ·exact (k7 b e).2 i (by omega) hF
end Go.Proofs.YtnedafiokmjkkaaGreatDoor
