/- Lists of records in memory of a call's own; a state whose li. -/
import Derived.Test.YtnedafiokmjkkaaGreatDoorpaBookTree
import Derived.Test.YtnedafiokmjkkaaGreatDoorpaClMem
import Derived.Laws.BytesArg
import Derived.Lib.Bytes
import Derived.Lib.BytesEntry
import Derived.Lib.Bytealg
import Derived.Laws.Externs
import Derived.Lib.ItoaNum
namespace Go.Proofs.YtnedafiokmjkkaaGreatDoor
open Tryz
set_option maxRecDepth 1000000
set_option maxHeartbeats 8000000
open Go.RowKit
variable {w w':World} {B N g i k n:Nat} {sv v v1 v2 v3 v4 v5 v6 v7:Value} {l:List (BitVec 8)} {t:TypeId} {rs:List (List Value)} {r:List Value} {F Z:Nat→Prop}
theorem QcQ (h:Bytes w N sv l):(convert 29 9 sv).run prog w=.ok (.string (strOfNums (l.map b8))) w:=by
 have zero:∀ (p:Option Addr) (c:Nat),(convert 29 9 (.slice p 0 c)).run prog w=.ok (.string (strOfNums [])) w:=fun p c=>by
  rw [run_convert_bytes_string w 29 9 5 _ 0 c underlying29 underlying5 underlying9]
  cases p <;> simp [Conv.bytesToString]
  all_goals rfl
 rcases h with ⟨rfl,rfl⟩ | ⟨a,d,rfl,rfl⟩ | ⟨b,e,d,rfl,_,hc⟩
 ·simp_all
 ·simp_all
 ·refine run_convert_bytes_arg w 29 5 underlying29 underlying5 b e l.length d (l.map b8) (by simp) (fun i hi=>?_) 9 underlying9
  rw [(hc i hi).2];simp [hi]
theorem Qvc {x y:BitVec 8} (h:UInt8.ofNat (b8 x).toNat=UInt8.ofNat (b8 y).toNat):x=y:=by
 have:=Bl UInt8.toNat h;unfold b8 at this;simp at this;exact DB (by omega)
theorem QoM: ∀ {l m:Bg},(l.map b8).map (fun n=>UInt8.ofNat n.toNat)=(m.map b8).map (fun n=>UInt8.ofNat n.toNat)→l=m
 | [],[],_=>rfl
 | [],_ :: _,h=>by simp at h
 | _ :: _,[],h=>by simp at h
 | x :: l,y :: m,h=>by
  simp only [CI,BD] at h;rw [Qvc h.1,QoM h.2]
theorem Qu9 (l m:Bg):((strOfNums (l.map b8)).toList == (strOfNums (m.map b8)).toList)=decide (l=m):=by
 by_cases e:l=m
 ·simp_all
 ·rw [BC e]
  rw [beq_eq_false_iff_ne];intro h;refine e (QoM ?_);rw [Lib.strOfNums_toList,Lib.strOfNums_toList] at h;exact h
theorem YC (l m:Bg) (sa sb:Value) (N M:Nat) (w:World) (ha:Bytes w N sa l) (hb:Bytes w M sb m) :
  Calls prog 144 #[sa,sb] w fun e w'=>e=.returned (.bool (decide (l=m)))∧w'=w:=by
 have h1:=QcQ ha;have h2:=QcQ hb;have HE:=hid (Qu9 l m)
 go_in
 go_wp2_with (simp only [h1])
 go_ret;exact ⟨by rw [HE.out];rfl,rfl⟩
theorem Qg1 (l:Bg) (sv:Value) (N:Nat) (w:World) (h:Bytes w N sv l) (hl:l.length≤140737488351232) :
  Calls prog 102 #[sv] w fun e w'=>Bd w w'∧∃ v,e=.returned v∧Qq w' w.heap.size v l:=by
 have q:∀ (w:World) (a:Option Addr) (n c n' c':Nat),(binOp .eql 29 (.slice a n c) (.slice none n' c')).run prog w=.ok (.bool a.isNone) w:=fun w a n c n' c'=>Lib.run_eql_slice_nil w _ _ a n c n' c' underlying29
 obtain ⟨oa,ca,rfl,D⟩:=h.shape
 cases oa with
 | none =>
  obtain ⟨rfl,rfl⟩:l=[]∧ca=0:=by
   rcases h with ⟨h1,h2⟩ | ⟨a,c,h1,_⟩ | ⟨b,o,c,h1,_⟩
   ·exact ⟨h2,by simp at h1;exact h1.2⟩
   ·simp at h1
   ·simp at h1
  go_in
  go_wp2;go_ret;exact ⟨Bi _ _,_,rfl,Qq.nil _ _⟩
 | some a =>
  obtain ⟨w1,j⟩:∃ w1,w.alloc (.cells #[] 5)=w1:=⟨_,rfl⟩;have d:=bof j
  have m:Qq w1 w.heap.size (.slice (some ⟨w.heap.size,0,none⟩) 0 0) []:=by
   refine ⟨rfl,.inr ⟨w.heap.size,0,#[],rfl,Bj _,?_,Bj _,by simp [maxLen],rfl,rfl⟩⟩
   rw [← j];exact BU _ _
  have z:Bytes w1 w1.heap.size (.slice (some a) l.length ca) l:=by
   rcases h with ⟨h1,_⟩ | ⟨a',c,h1,h2⟩ | ⟨b,o,c,h1,h2,h3⟩
   ·simp at h1
   ·subst h2
    exact .inr (.inl ⟨a,ca,rfl,rfl⟩)
   ·refine .inr (.inr ⟨b,o,ca,by simp at h1;rw [h1.1],D,fun i hi=>?_⟩)
    have hb:=CF (h3 i hi).2;exact ⟨Br hb d.size,(d.cell hb).trans (h3 i hi).2⟩
  have HO:=hid m;have HS:=hid z;have HB:=hid d;have HL:=hid hl;have A:=hid d.size;have C:=hid j;clear h hl m z d j;generalize hn:l.length=n at *;have HN:=hid hn;clear hn
  go_in
  go_wp2_with (at_builtin;rw [C.out];refine JR rfl (.tmp 5) (.tmp 6) rfl w.heap.size _ [] rfl HO.out _ l rfl HS.out (by have:=HL.out;rw [List.length_nil,HN.out];omega) A.out ?_;intro v' w' g1 g2 g3;have G1:=hid g1;have G2:=hid g2;clear g1 g2 g3)
  go_ret;exact ⟨HB.out.trans G2.out,_,rfl,G1.out⟩
theorem Qfc (l m:Bg) (k:Nat) (hl:k<l.length) (hm:k<m.length) (h:l.take k=m.take k) (hx:l.getD k 0=m.getD k 0):l.take (k+1)=m.take (k+1):=by grind [List.take_succ_eq_append_getElem]
theorem QfG (l m:Bg) (sa sb:Value) (Na Nb:Nat) (w:World) (ha:Bytes w Na sa l) (hb:Bytes w Nb sb m) (hlen:l.length<2305843009213693952) (A:m.length<2305843009213693952) :
  Calls prog 72 #[sa,sb] w fun e w'=>e=.returned (.bool (decide (l=m)))∧∃ n,w'=w.drewN n:=by
 obtain ⟨oa,ca,rfl,hca⟩:=ha.shape;obtain ⟨ob,cb,rfl,D⟩:=hb.shape
 by_cases d:l.length=m.length
 ·have HA:=hid ha
  have HB:=hid hb;clear ha hb;rw [← d] at HB D A ⊢;have HE:=hid d;clear d;generalize hn:l.length=n at *;have HN:=hid hn;clear hn;have E:((n:Int) != (n:Int))=false:=by simp
  go_in
  go_wp2_with fail
  go_loopw [13] (fun i wr=>∃ k q:Nat,k≤n∧i=Bb k∧wr=w.drewN q∧Hid (l.take k=m.take k)) (fun i _=>n-(intOf i).toNat)
  case atStart=>exact ⟨0,0,by omega,rfl,rfl,rfl⟩
  case round =>
   obtain ⟨k,q,hk,rfl,rfl,HT⟩:=hrel
   by_cases b:k<n
   ·have h1:Bytes w Na (.slice oa l.length ca) l:=by rw [HN.out];exact HA.out
    have h2:Bytes w Nb (.slice ob m.length cb) m:=by rw [← HE.out];exact HB.out
    obtain ⟨b1,o1,rfl,c1⟩:=h1.some (by rw [HN.out];omega)
    obtain ⟨b2,o2,rfl,c2⟩:=h2.some (by rw [← HE.out];omega)
    have d1:=(c1 k (by rw [HN.out];exact b)).2
    have d2:=(c2 k (by rw [← HE.out];exact b)).2
    obtain ⟨x,hx⟩:∃ x,l.getD k 0=x:=⟨_,rfl⟩;obtain ⟨y,hy⟩:∃ y,m.getD k 0=y:=⟨_,rfl⟩;rw [hx] at d1;rw [hy] at d2;have HX:=hid hx;have HY:=hid hy;clear h1 h2 c1 c2 hx hy;have hlt':(k:Int)<(n:Int):=by omega
    by_cases j:x=y
    ·subst j
     have G:(b8 x != b8 x)=false:=by simp
     go_wp2_with fail
     refine JD (by kernel_rfl) (by kernel_rfl) ?_
     repeat still_step
     refine Cd ?_;go_wp2;go_roundw
     case rel=>exact ⟨k+1,q+1,by omega,by go_num,rfl,Qfc l m k (by rw [HN.out];exact b) (by rw [← HE.out];exact b) HT.out (HX.out.trans HY.out.symm)⟩
     case measure=>simp [intOf];omega
    ·have G:(b8 x != b8 y)=true:=by
      simp only [bne_iff_ne,ne_eq];intro h;exact j (QqY h)
     have z:=hid (show decide (l=m)=false by
      apply BC;rintro rfl
      exact j (HX.out.symm.trans HY.out))
     clear j
     go_wp2_with fail
     refine JD (by kernel_rfl) (by kernel_rfl) ?_
     repeat still_step
     refine Cd ?_;go_wp2;go_ret;exact ⟨by rw [z.out];rfl,q+1,rfl⟩
   ·have C:=hid (show decide (l=m)=true by
     apply BB;have:=HT.out
     rwa [Bw (by rw [HN.out];omega),Bw (by rw [← HE.out];omega)] at this)
    go_wp2;go_ret;exact ⟨by rw [C.out];rfl,q,rfl⟩
 ·have E:((l.length:Int) != (m.length:Int))=true:=by simp;omega
  have z:=hid (show decide (l=m)=false by apply BC;rintro rfl;exact d rfl)
  clear ha hb
  go_in
  go_wp2;go_ret;exact ⟨by rw [z.out];rfl,0,rfl⟩
def Qkb (a b:Bg):Int:=if Qav a b=true then -1 else if Qav b a=true then 1 else 0
theorem Qlh (a b:Bg):Qkb a b<0↔Qav a b=true:=by
 unfold Qkb
 split
 ·simp [*]
 ·split <;> simp [*]
def Qn5 (x:BitVec 8):UInt8:=(b8 x).toNat.toUInt8
theorem Qun (x y:BitVec 8):Qn5 x<Qn5 y↔x.toNat<y.toNat:=by
 have hx:=x.isLt;have hy:=y.isLt;unfold Qn5 b8;rw [UInt8.lt_iff_toNat_lt];simp
theorem QeD:∀ a b:Bg,Lib.compareBytes (a.map Qn5) (b.map Qn5)=Qkb a b
 | [],[]=>rfl
 | [],_ :: _=>rfl
 | _ :: _,[]=>rfl
 | x :: a,y :: b=>by
  have ih:=QeD a b;rw [CI,CI,Lib.compareBytes,ih];unfold Qkb;rw [Qav,Qav]
  by_cases e:x=y
  ·subst e
   simp [UInt8.lt_irrefl]
  ·have e':¬ y=x:=fun h=>e h.symm
   rw [if_neg e,if_neg e'];simp only [Qun,BS]
   by_cases h1:x.toNat<y.toNat
   ·simp [h1]
   ·have h2:y.toNat<x.toNat:=by
     rcases Nat.lt_or_ge y.toNat x.toNat with h | h
     ·exact h
     ·exact absurd (DB (by omega)) e
    simp [h1,h2]
theorem Qi3 (h:Bytes w N sv l):(Extern.Bytes.bytesOf sv).run prog w=.ok ⟨(l.map Qn5).toArray⟩ w:=by
 rcases QbX h with ⟨rfl,rfl⟩ | ⟨ad,cap,rfl,hc⟩
 ·rfl
 ·have hl:=Lib.run_loadBytesX (P:=prog) w (l.map b8) ad .empty (fun j x hj=>by
   obtain ⟨y,hy,rfl⟩:∃ y,l[j]?=some y∧b8 y=x:=by simpa using hj
   exact hc j _ (by rw [Bt,hy];rfl))
  rw [Bp] at hl
  show (Extern.Bytes.loadBytes ad l.length .empty).run prog w=_
  rw [hl]
  congr 2
  simp [Lib.bytesOf,Qn5,Function.comp_def]
theorem Qlj {sa sb:Value} {m:Bg} (ha:Bytes w N sa l) (hb:Bytes w g sb m):(callFunc 260 #[sa,sb]).run prog w=.ok (.value (Bb (Qkb l m))) w:=by
 rw [Ee func260 (by kernel_rfl) (by kernel_rfl) (by kernel_rfl) (e:=Extern.BytealgCompare.compare) (by kernel_rfl)]
 have:(Extern.BytealgCompare.compare #[sa,sb]).run prog w=.ok (Bb (Qkb l m)) w:=by
  change Sem.run prog (do pure (goInt (Extern.BytealgCompare.cmp (← Extern.Bytes.bytesOf sa) (← Extern.Bytes.bytesOf sb)))) w=_
  simp only [Cz,CG,Result.andThen,Qi3 ha,Qi3 hb];rw [Lib.cmp_eq];simp only [QeD];rfl
 rw [this];rfl
theorem QfV (l m:Bg) (sa sb:Value) (N M:Nat) (w:World) (ha:Bytes w N sa l) (hb:Bytes w M sb m) :
  Calls prog 238 #[sa,sb] w fun e w'=>e=.returned (Bb (Qkb l m))∧w'=w:=by
 obtain ⟨oa,ca,rfl,hca⟩:=ha.shape;obtain ⟨ob,cb,rfl,hcb⟩:=hb.shape;have hc:=Qlj ha hb;clear ha hb;generalize l.length=n at *;generalize m.length=n' at *
 go_in
 go_wp2_with (simp only [hc])
 go_ret;exact ⟨rfl,rfl⟩
structure Cn where
 state:Int
 client:Int
 oclient:Int
 oconn:Int
structure Ch where
 state:Int
 ordered:Bool
 conn:Int
 ochan:Int
 send:Int
 recv:Int
 ack:Int
structure Mk where
 chan:Int
 seq:Int
 dig:Bg
structure Pu where
 owner:ByteArray
 denom:ByteArray
 amount:Nat
structure St where
 name:ByteArray
 height:Int
 time:Int
 clients:List Cl
 conns:List Cn
 chans:List Ch
 sent:List Mk
 got:List Mk
 acks:List Mk
 purses:List Pu
def St.none:St:=⟨⟨#[]⟩,0,0,[],[],[],[],[],[],[]⟩
def Mk.fits (m:Mk):Prop:=m.dig.length≤140737488351232
def Pu.fits (p:Pu):Prop:=p.owner.size≤140737488351232∧p.denom.size≤140737488351232∧p.amount<18446744073709551616
def St.fits (s:St):Prop:=s.name.size≤140737488351232∧(s.clients.length<2305843009213693952∧∀ c∈s.clients,c.fits)∧s.conns.length<2305843009213693952∧s.chans.length<2305843009213693952 ∧
 (s.sent.length<2305843009213693952∧∀ m∈s.sent,m.fits)∧(s.got.length<2305843009213693952∧∀ m∈s.got,m.fits)∧(s.acks.length<2305843009213693952∧∀ m∈s.acks,m.fits)∧s.purses.length<2305843009213693952∧∀ p∈s.purses,p.fits
variable {s:St}
def Qs (lo n:Int):Bool:=decide (lo≤n) && decide (n≤1000000000000)
theorem Q6 (lo n:Int):Qs lo n=true↔lo≤n∧n≤1000000000000:=by simp [Qs]
def Jf (c:Cn):Int:=if c.state<1∨3<c.state then 1 else if (Qs 0 c.client && (Qs 0 c.oclient && Qs (-1) c.oconn))=false then 3 else 0
def QZ (c:Ch):Int:=if c.state<1∨4<c.state then 1 else if (Qs 0 c.conn && (Qs (-1) c.ochan && (Qs 1 c.send && (Qs 1 c.recv && Qs 1 c.ack))))=false then 3 else 0
def Yj (m:Mk):Int:=if (Qs 0 m.chan && Qs 1 m.seq)=false then 3 else if m.dig.length≠32 then 2 else 0
def Qw (a b:Mk):Bool:=decide (a.chan<b.chan∨a.chan=b.chan∧a.seq<b.seq)
def QH (s:ByteArray):Bool:=decide (1≤s.size) && decide (s.size≤40)
def Qco (p:Pu):Int:=if (QH p.owner && QH p.denom)=false then 4 else if p.amount=0 then 3 else 0
def Qjt (a b:ByteArray):Bool:=Op.bytesLess a.toList b.toList
def QO (a b:Pu):Bool:=Qjt a.owner b.owner || (decide (a.owner=b.owner) && Qjt a.denom b.denom)
def Ju {α:Type} (f:α→Int):List α→Int
 | []=>0
 | x :: r=>if f x≠0 then f x else Ju f r
def QaB {α:Type} (lt:α→α→Bool):Option α→α→Bool
 | none,_=>true
 | some a,x=>lt a x
def Qde {α:Type} (f:α→Int) (lt:α→α→Bool) (p:Option α):List α→Int
 | []=>0
 | x :: r=>if f x≠0 then f x else if QaB lt p x=false then 2 else Qde f lt (some x) r
def orN:List Int→Int
 | []=>0
 | x :: r=>if x≠0 then x else orN r
def QaY (s:St):Bool:=decide (4<s.clients.length∨8<s.conns.length∨8<s.chans.length∨50<s.sent.length∨50<s.got.length∨50<s.acks.length∨60<s.purses.length)
def QP (l:List Mk):Int:=Qde Yj Qw none l
def Qbr (l:List Pu):Int:=Qde Qco QO none l
def Qja (s:St):Int:=orN [Ju QA s.clients,Ju Jf s.conns,Ju QZ s.chans,QP s.sent,QP s.got,QP s.acks,Qbr s.purses]
def Qd (s:St):Int:=if Zo s.name=false then 7 else if (Qs 0 s.height && Qs 0 s.time)=false then 3 else if QaY s=true then 5 else Qja s
theorem Yv {α:Type} (f:α→Int):∀ (l:List α),Ju f l=0↔∀ x∈l,f x=0
 | []=>by simp [Ju]
 | x :: r=>by
  rw [Ju]
  by_cases h:f x=0
  ·rw [if_neg (by simp [h]),Yv f r];simp [h]
  ·rw [if_pos h];simp [h]
theorem JS: ∀ (l:List Int),orN l=0↔∀ x∈l,x=0
 | []=>by simp [orN]
 | x :: r=>by
  rw [orN]
  by_cases h:x=0
  ·rw [if_neg (by simp [h]),JS r];simp [h]
  ·rw [if_pos h];simp [h]
theorem Qca {a b c:Mk} (h1:Qw a b=true) (h2:Qw b c=true):Qw a c=true:=by grind [Qw]
theorem QkT {α:Type} {f:α→Int} {lt:α→α→Bool} (ht:∀ a b c,lt a b=true→lt b c=true→lt a c=true):∀ (l:List α) (p:Option α),Qde f lt p l=0→(∀ x∈l,f x=0)∧(∀ a,p=some a→∀ x∈l,lt a x=true)∧l.Pairwise fun a b=>lt a b=true
 | [],_,_=>⟨fun _ h=>(by cases h),fun _ _ _ h=>(by cases h),List.Pairwise.nil⟩
 | x :: r,p,h=>by
  rw [Qde] at h
  by_cases h1:f x=0
  ·rw [if_neg (by simp [h1])] at h
   cases h2:QaB lt p x with
   | false=>rw [h2,if_pos rfl] at h;cases h
   | true =>
    rw [h2,if_neg (by simp)] at h
    obtain ⟨g1,g2,g3⟩:=QkT ht r (some x) h;refine ⟨fun y hy=>?_,fun a ha y hy=>?_,CN.2 ⟨g2 x rfl,g3⟩⟩
    ·rcases Bo.1 hy with rfl | hy
     ·exact h1
     ·exact g1 y hy
    ·subst ha
     have hx:lt a x=true:=h2
     rcases Bo.1 hy with rfl | hy
     ·exact hx
     ·exact ht _ _ _ hx (g2 x rfl y hy)
  ·rw [if_pos h1] at h;exact absurd h h1
structure Qvu (s:St):Prop where
 many:s.conns.length≤8∧s.chans.length≤8∧s.sent.length≤50∧s.got.length≤50∧s.acks.length≤50
 conns:∀ c∈s.conns,Jf c=0
 chans:∀ c∈s.chans,QZ c=0
 sent:(∀ m∈s.sent,Yj m=0)∧s.sent.Pairwise fun a b=>Qw a b=true
 got:(∀ m∈s.got,Yj m=0)∧s.got.Pairwise fun a b=>Qw a b=true
 acks:(∀ m∈s.acks,Yj m=0)∧s.acks.Pairwise fun a b=>Qw a b=true
theorem Y3 {l:List Mk} (h:QP l=0):(∀ m∈l,Yj m=0)∧l.Pairwise fun a b=>Qw a b=true:=by grind [QP,QkT,Qca]
theorem QE (h:Qd s=0):Qvu s:=by
 unfold Qd at h
 split at h
 ·cases h
 split at h
 ·cases h
 split at h
 ·cases h
 rename_i hm;have hm':¬ (4<s.clients.length∨8<s.conns.length∨8<s.chans.length∨50<s.sent.length∨50<s.got.length∨50<s.acks.length∨60<s.purses.length):=fun e=>hm (BB e)
 have h':=(JS _).1 h;simp only [Bo,Cu] at h';obtain ⟨_,h2,h3,h4,h5,h6,_⟩:=h';exact ⟨by omega,(Yv _ _).1 h2,(Yv _ _).1 h3,Y3 h4,Y3 h5,Y3 h6⟩
def ZK (n:Nat):Bg:=(Lib.decDigits n).map fun x=>x.toBitVec
theorem Qhb (h:n<10):ZK n=[BitVec.ofNat 8 (48+n)]:=by unfold ZK;rw [Lib.decDigits,dif_pos h];rfl
theorem Qro (h:¬ n<10):ZK n=ZK (n / 10) ++ [BitVec.ofNat 8 (48+n % 10)]:=by unfold ZK;rw [Lib.decDigits,dif_neg h,Cc];rfl
theorem Qah:∀ (k n:Nat),n<10 ^ (k+1)→(ZK n).length≤k+1
 | 0,n,h=>by rw [Qhb (by simpa using h)];simp
 | k+1,n,h=>by
  by_cases h1:n<10
  ·rw [Qhb h1];simp
  ·rw [Qro h1,Bs]
   have:=Qah k (n / 10) (by omega)
   simp;omega
def Jr (k:Bg):List Nat→Bg
 | []=>k
 | n :: l=>k ++ 47 :: Jr (ZK n) l
def ZP (n:Int):Pc:=⟨1,n.toNat,[]⟩
def ZE (l:List Int):Bg:=Zb l.length ++ wrs (l.map ZP)
def QcP (c:Cn):Bg:=ZE [c.state,c.client,c.oclient,c.oconn+1]
def QcL (c:Ch):Bg:=ZE [c.state,if c.ordered=true then 1 else 0,c.conn,c.ochan+1]
def QaW:Bg:=[99,111,110,110]
def Qed:Bg:=[99,104,97,110]
def Qee:Bg:=[110,101,120,116]
def Qhu:Bg:=[115,101,110,116]
def Qht:Bg:=[103,111,116]
def Qhs:Bg:=[97,99,107]
def QvD (x:Cn×Nat):Dg:=⟨Jr QaW [x.2],QcP x.1,false⟩
def QvC (x:Ch×Nat):List Dg:=[⟨Jr Qed [x.2],QcL x.1,false⟩,⟨Jr Qee [x.2],ZE [x.1.recv],false⟩]
def Qrt (k:Bg) (m:Mk):Dg:=⟨Jr k [m.chan.toNat,m.seq.toNat],m.dig,false⟩
def QvR (s:St):List Dg:=s.conns.zipIdx.map QvD ++ (s.chans.zipIdx.flatMap QvC ++ (s.sent.map (Qrt Qhu) ++ (s.got.map (Qrt Qht) ++ s.acks.map (Qrt Qhs))))
theorem QgA (l:List Int) (hl:l.length≤4) (hn:∀ n∈l,n.toNat<18446744073709551616):YB (l.map ZP)=.ok (ZE l)∧(ZE l).length≤60:=by
 have hw:∀ (m:List Int),(∀ n∈m,n.toNat<18446744073709551616)→(wrs (m.map ZP)).length≤11*m.length:=by
  intro m
  induction m with
  | nil=>intro _;simp [wrs]
  | cons a m ih =>
   intro h;have h1:=ih (fun n hn=>h n (Cr _ hn))
   have h2:=Q4 a.toNat (h a Ck);have e:wrs ((a :: m).map ZP)=(0 :: Zb a.toNat) ++ wrs (m.map ZP):=by simp [wrs,ZP,Pc.wr]
   rw [e,Bs,Cy,Cy];omega
 have h1:=hw l hn;have h2:=Q4 l.length (by omega)
 have h3:(ZE l).length≤60:=by unfold ZE;rw [Bs];omega
 refine ⟨?_,h3⟩;unfold YB;rw [if_neg (by rw [Bp];omega),Bp,Qfm _ _ _ (fun p hp=>by obtain ⟨n,_,rfl⟩:=BG.1 hp;exact .inl rfl) (by have:=h3;unfold ZE at this;omega)]
 rfl
theorem Zm {c:Cn} (h:Jf c=0):(1≤c.state∧c.state≤3)∧(0≤c.client∧c.client≤1000000000000)∧(0≤c.oclient∧c.oclient≤1000000000000)∧(-1≤c.oconn∧c.oconn≤1000000000000):=by grind [Jf,Q6]
theorem Jw {c:Ch} (h:QZ c=0):(1≤c.state∧c.state≤4)∧(0≤c.conn∧c.conn≤1000000000000)∧(-1≤c.ochan∧c.ochan≤1000000000000)∧(1≤c.send∧c.send≤1000000000000)∧(1≤c.recv∧c.recv≤1000000000000)∧(1≤c.ack∧c.ack≤1000000000000):=by
 unfold QZ at h
 split at h
 ·cases h
 split at h
 ·cases h
 rename_i h1 h2;simp only [Bool.not_eq_false,BX,Q6] at h2;exact ⟨by omega,h2.1,h2.2.1,h2.2.2.1,h2.2.2.2.1,h2.2.2.2.2⟩
theorem Qoj {m:Mk} (h:Yj m=0):(0≤m.chan∧m.chan≤1000000000000)∧(1≤m.seq∧m.seq≤1000000000000)∧m.dig.length=32:=by grind [Yj,Q6]
def Qt {α:Type} (R:World→Nat→List Value→α→Prop) (k:Nat) (w:World) (N:Nat) (sv:Value) (l:List α):Prop :=
 ∃ rs:List (List Value),rs.length=l.length∧Q9 w N sv k rs∧∀ (i:Nat) r x,rs[i]?=some r→l[i]?=some x→R w N r x
structure QaR {α:Type} (R:World→Nat→List Value→α→Prop):Prop where
 below:∀ {w w':World} {N:Nat} {r:List Value} {x:α},R w N r x→Below N w w'→R w' N r x
 mono:∀ {w:World} {N M:Nat} {r:List Value} {x:α},R w N r x→N≤M→R w M r x
theorem Qt.below {α:Type} {R:World→Nat→List Value→α→Prop} {k:Nat} {w w':World} {N:Nat} {sv:Value} {l:List α} (hR:QaR R) (h:Qt R k w N sv l) (hg:Below N w w'):Qt R k w' N sv l:=by
 obtain ⟨rs,h1,h2,h3⟩:=h;exact ⟨rs,h1,h2.below hg,fun i r x hr hx=>hR.below (h3 i r x hr hx) hg⟩
theorem Qt.mono {α:Type} {R:World→Nat→List Value→α→Prop} {k:Nat} {w:World} {N M:Nat} {sv:Value} {l:List α} (hR:QaR R) (h:Qt R k w N sv l) (hN:N≤M):Qt R k w M sv l:=by
 obtain ⟨rs,h1,h2,h3⟩:=h;exact ⟨rs,h1,h2.mono hN,fun i r x hr hx=>hR.mono (h3 i r x hr hx) hN⟩
theorem Qt.shape {α:Type} {R:World→Nat→List Value→α→Prop} {k:Nat} {w:World} {N:Nat} {sv:Value} {l:List α} (h:Qt R k w N sv l):∃ oa b,sv=.slice oa l.length b∧l.length≤b:=by
 obtain ⟨rs,h1,h2,-⟩:=h;obtain ⟨oa,b,h4,h5⟩:=h2.shape;exact ⟨oa,b,by rw [h4,h1],by omega⟩
theorem Qt.nil {α:Type} (R:World→Nat→List Value→α→Prop) (k:Nat) (w:World) (N:Nat):Qt R k w N (Bc) []:=⟨[],rfl,.inl ⟨rfl,rfl⟩,fun i r x h=>by simp at h⟩
theorem Qt.spot {α:Type} {R:World→Nat→List Value→α→Prop} {k:Nat} {w:World} {N:Nat} {oa:Option Addr} {n m:Nat} {l:List α} (h:Qt R k w N (.slice oa n m) l) (hl:0<n) :
  ∃ b d,oa=some ⟨b,d,none⟩∧∀ (i:Nat) x,l[i]?=some x→b<N∧∃ r,R w N r x∧∀ (j:Nat) v,r[j]?=some v→w.cell? ⟨b,d+i*k+j,none⟩=some v:=by
 obtain ⟨rs,h1,h2,h3⟩:=h;obtain ⟨b,d,e,hc⟩:=h2.spot hl;refine ⟨b,d,e,fun i x hx=>?_⟩
 have hi:i<rs.length:=by grind
 obtain ⟨r,hr⟩:∃ r,rs[i]?=some r:=⟨_,Bk hi⟩;obtain ⟨g1,g2⟩:=hc i r hr;exact ⟨g1,r,h3 i r x hr hx,g2⟩
def Q5 (c:Cn):List Value:=[Bb c.state,Bb c.client,Bb c.oclient,Bb c.oconn]
def Qr (c:Ch):List Value:=[Bb c.state,.bool c.ordered,Bb c.conn,Bb c.ochan,Bb c.send,Bb c.recv,Bb c.ack]
def YN (p:Pu):List Value:=[.string p.owner,.string p.denom,.int .u64 (p.amount:Int)]
def CnR (_:World) (_:Nat) (r:List Value) (c:Cn):Prop:=r=Q5 c
def ChR (_:World) (_:Nat) (r:List Value) (c:Ch):Prop:=r=Qr c
def PuR (_:World) (_:Nat) (r:List Value) (p:Pu):Prop:=r=YN p
def MkR (w:World) (N:Nat) (r:List Value) (m:Mk):Prop:=∃ v,r=[Bb m.chan,Bb m.seq,v]∧Bytes w N v m.dig
def ClR (w:World) (N:Nat) (r:List Value) (c:Cl):Prop:=∃ kv,r=[.string c.chain,Bb c.trust,.bool c.frozen,kv]∧Jh w N kv c.known
theorem CnR.stays: QaR CnR:=by grind [QaR,CnR]
theorem ChR.stays: QaR ChR:=by grind [QaR,ChR]
theorem PuR.stays: QaR PuR:=by grind [QaR,PuR]
theorem MkR.stays: QaR MkR:=⟨fun ⟨v,h1,h2⟩ hg=>⟨v,h1,h2.below hg⟩,fun ⟨v,h1,h2⟩ hg=>⟨v,h1,h2.mono hg⟩⟩
theorem ClR.stays: QaR ClR:=⟨fun ⟨v,h1,h2⟩ hg=>⟨v,h1,h2.below hg⟩,fun ⟨v,h1,h2⟩ hg=>⟨v,h1,h2.mono hg⟩⟩
structure Zn (w:World) (N:Nat) (s:St) (v1 v2 v3 v4 v5 v6 v7:Value):Prop where
 clients:Qt ClR 4 w N v1 s.clients
 conns:Qt CnR 4 w N v2 s.conns
 chans:Qt ChR 7 w N v3 s.chans
 sent:Qt MkR 3 w N v4 s.sent
 got:Qt MkR 3 w N v5 s.got
 acks:Qt MkR 3 w N v6 s.acks
 purses:Qt PuR 3 w N v7 s.purses
theorem Zn.below (h:Zn w N s v1 v2 v3 v4 v5 v6 v7) (hg:Below N w w'):Zn w' N s v1 v2 v3 v4 v5 v6 v7 :=
 ⟨h.clients.below ClR.stays hg,h.conns.below CnR.stays hg,h.chans.below ChR.stays hg,h.sent.below MkR.stays hg,h.got.below MkR.stays hg,h.acks.below MkR.stays hg,h.purses.below PuR.stays hg⟩
theorem Zn.mono (h:Zn w N s v1 v2 v3 v4 v5 v6 v7) (hN:N≤g):Zn w g s v1 v2 v3 v4 v5 v6 v7 :=
 ⟨h.clients.mono ClR.stays hN,h.conns.mono CnR.stays hN,h.chans.mono ChR.stays hN,h.sent.mono MkR.stays hN,h.got.mono MkR.stays hN,h.acks.mono MkR.stays hN,h.purses.mono PuR.stays hN⟩
def StV (w:World) (N:Nat) (v:Value) (s:St):Prop:=∃ v1 v2 v3 v4 v5 v6 v7,v=.agg #[.string s.name,Bb s.height,Bb s.time,v1,v2,v3,v4,v5,v6,v7]∧Zn w N s v1 v2 v3 v4 v5 v6 v7
theorem StV.below (h:StV w N v s) (hg:Below N w w'):StV w' N v s:=by
 obtain ⟨v1,v2,v3,v4,v5,v6,v7,e,h⟩:=h;exact ⟨v1,v2,v3,v4,v5,v6,v7,e,h.below hg⟩
theorem StV.mono (h:StV w N v s) (hN:N≤g):StV w g v s:=by
 obtain ⟨v1,v2,v3,v4,v5,v6,v7,e,h⟩:=h;exact ⟨v1,v2,v3,v4,v5,v6,v7,e,h.mono hN⟩
theorem StV.open (h:StV w N v s):∃ o1 c1 o2 c2 o3 c3 o4 c4 o5 c5 o6 c6 o7 c7,v=.agg #[.string s.name,Bb s.height,Bb s.time,.slice o1 s.clients.length c1,.slice o2 s.conns.length c2,.slice o3 s.chans.length c3,.slice o4 s.sent.length c4,.slice o5 s.got.length c5,.slice o6 s.acks.length c6,.slice o7 s.purses.length c7] ∧
  Zn w N s (.slice o1 s.clients.length c1) (.slice o2 s.conns.length c2) (.slice o3 s.chans.length c3) (.slice o4 s.sent.length c4) (.slice o5 s.got.length c5) (.slice o6 s.acks.length c6) (.slice o7 s.purses.length c7):=by
 obtain ⟨v1,v2,v3,v4,v5,v6,v7,rfl,h⟩:=h;obtain ⟨o1,c1,rfl,-⟩:=h.clients.shape;obtain ⟨o2,c2,rfl,-⟩:=h.conns.shape;obtain ⟨o3,c3,rfl,-⟩:=h.chans.shape;obtain ⟨o4,c4,rfl,-⟩:=h.sent.shape;obtain ⟨o5,c5,rfl,-⟩:=h.got.shape;obtain ⟨o6,c6,rfl,-⟩:=h.acks.shape;obtain ⟨o7,c7,rfl,-⟩:=h.purses.shape;exact ⟨_,_,_,_,_,_,_,_,_,_,_,_,_,_,rfl,h⟩
theorem Qrv (rs:List (List Value)) (h:∀ r∈rs,r.length=k) (i:Nat) (r:List Value) (hi:i<rs.length) (hr:r.length=k):(rs.set i r).flatten=QaH rs.flatten (i*k) r:=by
 rw [List.set_eq_take_append_cons_drop,if_pos hi,CX,CJ,Qb5 rs h,Qb4 rs h];unfold QaH;rw [hr,BO,Cm]
theorem Qf.put {base c:Nat} (h:Qf t k w base (.slice (some ⟨g,0,none⟩) n c) rs) (hi:i<rs.length) (hr:r.length=k∧∀ x∈r,x.oneCell'=true) :
  Qf t k (w.setCells g (i*k) r) base (.slice (some ⟨g,0,none⟩) n c) (rs.set i r):=by
 obtain ⟨h0,h1,h2⟩:=h
 have hk:∀ r'∈rs.set i r,r'.length=k:=fun x hx=>by
  rcases Dk hx with hx | rfl
  ·exact (h0 x hx).1
  ·exact hr.1
 refine ⟨fun x hx=>?_,YD _ hk,?_⟩
 ·rcases Dk hx with hx | rfl
  ·exact h0 x hx
  ·exact hr
 ·rcases h2 with ⟨h3,h4⟩ | ⟨g',cap,b,h3,h4,h5,h6,h7,h8,h9⟩
  ·cases h3
  ·simp only [DI,C4,Dy] at h3
   obtain ⟨⟨rfl,-,-⟩,rfl,rfl⟩:=h3;have j:i*k+k≤rs.length*k:=by have:=Ct k hi;rw [BO] at this;exact this
   have hck:rs.length*k≤c*k:=Ct k h6;have d:b.toList.length=c*k:=by simpa using h8
   have e:=Row.setCells r (i*k) w b.toList (show Row w g t b.toList by unfold Row;simpa using h5) (by rw [hr.1,d];omega)
   refine .inr ⟨g,c,(QaH b.toList (i*k) r).toArray,by rw [C5],h4,e,by rw [C5];exact h6,h7,?_,?_⟩
   ·rw [D5,YS _ _ _ (by rw [hr.1,d];omega),d]
   ·rw [C5,Qrv rs (fun r hr=>(h0 r hr).1) i r hi hr.1,← h9]
    show (QaH b.toList (i*k) r).take (rs.length*k)=_
    rw [QbM _ _ _ (by omega) _ (by rw [hr.1];exact j)]
    unfold QaH;rw [List.take_take,DJ (by omega),List.drop_take]
theorem JM {a:World} (hg:B≤g):∀ (vs:List Value) (o:Nat) (w:World),Below B a w→Below B a (w.setCells g o vs)
 | [],_,_,h=>h
 | v :: vs,o,w,h=>JM hg vs (o+1) (w.setCell ⟨g,o,none⟩ v) (h.setCell hg v)
theorem Qbz (g:Nat):∀ (vs:List Value) (o:Nat) (w:World) (k:Nat),k≠g→(w.setCells g o vs).heap[k]?=w.heap[k]?
 | [],_,_,_,_=>rfl
 | v :: vs,o,w,k,h=>(Qbz g vs (o+1) (w.setCell ⟨g,o,none⟩ v) k h).trans (DN _ _ _ _ h)
theorem Q3 (w:World) (g o:Nat) (vs:List Value):w.grownBy (w.setCells g o vs) (some g) :=
 have h:=JM (by omega) vs o w (Bi 0 w)
 ⟨h.os,h.tape,h.output,h.size,fun k _ b=>Qbz g vs o w k (fun e=>b (by rw [e]))⟩
def QK (F:Nat→Prop) (w:World) (P:World→Prop):Prop:=(∀ k,F k→k<w.heap.size)∧∀ w2,Below 0 w w2→(∀ k,F k→w2.heap[k]?=w.heap[k]?)→P w2
theorem QK.now {P:World→Prop} (h:QK F w P):P w:=h.2 w (Bi _ _) (fun _ _=>rfl)
theorem QK.on {w2:World} {P:World→Prop} (h:QK F w P) (hb:Below 0 w w2) (hk:∀ k,F k→w2.heap[k]?=w.heap[k]?):QK F w2 P :=
 ⟨fun k hF=>Br (h.1 k hF) hb.size,fun w3 h3 b=>h.2 w3 (hb.trans h3) (fun k hF=>(b k hF).trans (hk k hF))⟩
theorem QK.below {w2:World} {P:World→Prop} (h:QK F w P) (hb:Bd w w2):QK F w2 P:=h.on (hb.mono (by omega)) (fun k hF=>hb.block k (h.1 k hF))
theorem Qb6 {w2:World} {r:Option Nat} (hg:w.grownBy w2 r):Below 0 w w2:=⟨hg.os,hg.tape,hg.output,hg.size,fun _ hk=>absurd hk (by omega)⟩
theorem QK.grown {w2:World} {P:World→Prop} (h:QK F w P) {r:Option Nat} (hg:w.grownBy w2 r) (hr:∀ k,r=some k→¬ F k):QK F w2 P :=
 h.on (Qb6 hg) (fun k hF=>hg.block k (h.1 k hF) (fun e=>hr k e.symm hF))
theorem QK.set {P:World→Prop} (h:QK F w P) (hg:¬ F g) (o:Nat) (r:List Value):QK F (w.setCells g o r) P :=
 h.on (JM (by omega) r o w (Bi 0 w)) (fun k hF=>Qbz g r o w k (fun e=>hg (e ▸ hF)))
theorem QK.wide {P:World→Prop} (h:QK F w P) (hFG:∀ k,F k→Z k) (hG:∀ k,Z k→k<w.heap.size):QK Z w P:=by grind [QK]
theorem Qt.held {α:Type} {R:World→Nat→List Value→α→Prop} (hR:QaR R) {k N:Nat} {w:World} {v:Value} {l:List α} (h:Qt R k w N v l) (hN:N≤w.heap.size):QK (fun b=>b<N) w (fun w2=>Qt R k w2 w2.heap.size v l) :=
 ⟨fun _ hb=>Br hb hN,fun _ hb hk=>(h.below hR ⟨hb.os,hb.tape,hb.output,hb.size,hk⟩).mono hR (Bh hN hb.size)⟩
def Qq3 {α:Type} (c:α→List Value) (_:World) (_:Nat) (r:List Value) (x:α):Prop:=r=c x
def Jy {α:Type} (t:TypeId) (c:α→List Value) (k:Nat) (w:World) (base:Nat) (v:Value) (l:List α):Prop:=Qf t k w base v (l.map c)
theorem Jy.held {α:Type} {t:TypeId} {c:α→List Value} {k:Nat} {w:World} {base:Nat} {v:Value} {l:List α} (h:Jy t c k w base v l):QK (fun b=>v.ownBlock=some b) w (fun w2=>Qt (Qq3 c) k w2 w2.heap.size v l) :=
 ⟨fun b hb=>(h.own b hb).2,fun w2 _ hk=>⟨l.map c,by rw [Bp],(Qf.keep h (fun g hg=>hk g hg)).recs,fun i r x hr hx=>by
  rw [Bt,hx] at hr
  exact (Bu hr).symm⟩⟩
theorem Qef {α:Type} {c:α→List Value} {k:Nat} {w:World} {N:Nat} {v:Value} {l:List α} (h:Qt (Qq3 c) k w N v l):Q9 w N v k (l.map c):=by
 obtain ⟨rs,h1,h2,h3⟩:=h
 have:rs=l.map c:=by
  refine CP fun i=>?_
  rw [Bt]
  cases hl:l[i]? with
  | none =>
   have:rs.length≤i:=by simp_all
   rw [Ds this];rfl
  | some x =>
   have hi:i<rs.length:=by grind
   obtain ⟨r,hr⟩:∃ r,rs[i]?=some r:=⟨_,Bk hi⟩;rw [hr,h3 i r x hr hl];rfl
 rw [← this];exact h2
theorem Jy.below {α:Type} {t:TypeId} {c:α→List Value} {k:Nat} {w w':World} {base:Nat} {v:Value} {l:List α} (h:Jy t c k w base v l) (hg:Bd w w'):Jy t c k w' base v l:=Qf.below h hg
theorem Qjl {k:Nat}:∀ (rs:List (List Value)) (i j:Nat) (r:List Value) (x:Value),(∀ r∈rs,r.length=k)→rs[i]?=some r→j<k→(rs.set i (r.set j x)).flatten=rs.flatten.set (i*k+j) x
 | [],i,j,r,x,_,h,_=>by simp at h
 | a :: rs,i,j,r,x,hk,h,hj=>by
  have ha:=hk a Ck
  cases i with
  | zero =>
   obtain rfl:a=r:=by simp_all
   rw [List.set_cons_zero,CJ,CJ,CR,Bq,List.set_append_left _ _ (by omega)]
  | succ i =>
   rw [List.set_cons_succ,CJ,CJ,Qjl rs i j r x (fun r hr=>hk r (Cr _ hr)) (by simpa using h) hj,Dd _ _ (by rw [ha,BO];omega),ha,show (i+1)*k+j-k=i*k+j by rw [BO];omega]
theorem Qf.putCell {base c j:Nat} {x:Value} (h:Qf t k w base (.slice (some ⟨g,0,none⟩) n c) rs) (hi:rs[i]?=some r) (hj:j<k) (hx:x.oneCell'=true) :
  Qf t k (w.setCell ⟨g,i*k+j,none⟩ x) base (.slice (some ⟨g,0,none⟩) n c) (rs.set i (r.set j x)):=by
 obtain ⟨h0,h1,h2⟩:=h;have hil:i<rs.length:=(Bm.1 hi).1;have e:=h0 r (Bn hi)
 have b:∀ r'∈rs.set i (r.set j x),r'.length=k∧∀ y∈r',y.oneCell'=true:=fun y hy=>by
  rcases Dk hy with hy | rfl
  ·exact h0 y hy
  ·refine ⟨by rw [C5];exact e.1,fun u hu=>?_⟩
   rcases Dk hu with hu | rfl
   ·exact e.2 u hu
   ·exact hx
 refine ⟨b,YD _ (fun r hr=>(b r hr).1),?_⟩
 rcases h2 with ⟨h3,h4⟩ | ⟨g',cap,d,h3,h4,h5,h6,h7,h8,h9⟩
 ·cases h3
 ·simp only [DI,C4,Dy] at h3
  obtain ⟨⟨rfl,-,-⟩,rfl,rfl⟩:=h3;have m:=Row.set (show Row w g t d.toList by unfold Row;simpa using h5) (i*k+j) x
  refine .inr ⟨g,c,(d.toList.set (i*k+j) x).toArray,by rw [C5],h4,m,by rw [C5];exact h6,h7,?_,?_⟩
  ·simpa using h8
  ·rw [C5,Qjl rs i j r x (fun r hr=>(h0 r hr).1) hi hj,← h9]
   show (d.toList.set (i*k+j) x).take (rs.length*k)=_
   rw [List.take_set]
def Ym {α:Type} (t:TypeId) (R:World→Nat→List Value→α→Prop) (k N base:Nat) (w:World) (v:Value) (l:List α):Prop :=
 ∃ rs:List (List Value),rs.length=l.length∧Qf t k w base v rs∧∀ (i:Nat) r x,rs[i]?=some r→l[i]?=some x→QK (fun b=>some b≠v.ownBlock∧(b<N∨base≤b)∧b<w.heap.size) w (fun w2=>R w2 w2.heap.size r x)
theorem Ym.shape {α:Type} {t:TypeId} {R:World→Nat→List Value→α→Prop} {k N base:Nat} {w:World} {v:Value} {l:List α} (h:Ym t R k N base w v l):∃ oa b,v=.slice oa l.length b∧l.length≤b:=by
 obtain ⟨rs,h1,h2,_⟩:=h;rw [← h1];exact h2.shape
theorem Ym.held {α:Type} {t:TypeId} {R:World→Nat→List Value→α→Prop} {k N base:Nat} {w:World} {v:Value} {l:List α} (h:Ym t R k N base w v l):QK (fun b=>(b<N∨base≤b)∧b<w.heap.size) w (fun w2=>Qt R k w2 w2.heap.size v l):=by
 obtain ⟨rs,h1,h2,h3⟩:=h;refine ⟨fun b hb=>hb.2,fun w2 hb hk=>⟨rs,h1,(h2.keep fun g hg=>hk g ⟨.inr (h2.own g hg).1,(h2.own g hg).2⟩).recs,fun i r x hr hx=>(h3 i r x hr hx).2 w2 hb fun b hF=>hk b hF.2⟩⟩
theorem Ym.below {α:Type} {t:TypeId} {R:World→Nat→List Value→α→Prop} {k N base:Nat} {w w':World} {v:Value} {l:List α} (h:Ym t R k N base w v l) (hg:Bd w w'):Ym t R k N base w' v l:=by
 obtain ⟨rs,h1,h2,h3⟩:=h;exact ⟨rs,h1,h2.below hg,fun i r x hr hx=>((h3 i r x hr hx).below hg).wide (fun b hF=>⟨hF.1,hF.2.1,Br hF.2.2 hg.size⟩) (fun b hF=>hF.2.2)⟩
theorem Ym.new {α:Type} {t:TypeId} {R:World→Nat→List Value→α→Prop} (hR:QaR R) {k N base:Nat} {w w':World} {v':Value} {l:List α} {rs:List (List Value)} (h0:rs.length=l.length) (h:Qf t k w' base v' rs) (hm:∀ (i:Nat) r x,rs[i]?=some r→l[i]?=some x→R w N r x) (hN:N≤base) (m:N≤w.heap.size) (hb:Bd w w'):Ym t R k N base w' v' l :=
 ⟨rs,h0,h,fun i r x hr hx=>⟨fun b hF=>hF.2.2,fun w2 d hk=>hR.mono (hR.below (hm i r x hr hx) ⟨d.os.trans hb.os,d.tape.trans hb.tape,d.output.trans hb.output,Bh hb.size d.size,fun b q=>by
  have j:b<w.heap.size:=Br q m;refine (hk b ⟨fun e=>?_,.inl q,Br j hb.size⟩).trans (hb.block b j)
  have:=(h.own b e.symm).1
  omega⟩) (Bh m (Bh hb.size d.size))⟩⟩
theorem Ym.put {α:Type} {t:TypeId} {R:World→Nat→List Value→α→Prop} {k N base g n c i:Nat} {w w':World} {l:List α} {rs:List (List Value)} {r:List Value} {x:α} (h0:rs.length=l.length)
  (h3:∀ (i:Nat) r x,rs[i]?=some r→l[i]?=some x→QK (fun b=>b≠g∧(b<N∨base≤b)∧b<w.heap.size) w (fun w2=>R w2 w2.heap.size r x)) (hx:l[i]?=some x)
  (hr:QK (fun b=>b≠g∧(b<N∨base≤b)∧b<w.heap.size) w (fun w2=>R w2 w2.heap.size r x)) (hg:w.grownBy w' (some g)) (h:Qf t k w' base (.slice (some ⟨g,0,none⟩) n c) (rs.set i r)):Ym t R k N base w' (.slice (some ⟨g,0,none⟩) n c) l:=by
 have W:∀ (P:World→Prop),QK (fun b=>b≠g∧(b<N∨base≤b)∧b<w.heap.size) w P→QK (fun b=>some b≠(Value.slice (some ⟨g,0,none⟩) n c).ownBlock∧(b<N∨base≤b)∧b<w'.heap.size) w' P:=fun P hP =>
  (hP.grown hg (fun b e hF=>hF.1 (Bu e).symm)).wide (fun b hF=>⟨fun e=>hF.1 (Bu e),hF.2.1,Br hF.2.2 hg.size⟩) (fun b hF=>hF.2.2)
 refine ⟨rs.set i r,by rw [C5];exact h0,h,fun j r' y d hy=>?_⟩
 by_cases e:i=j
 ·subst e
  have m:i<rs.length:=by rw [h0];exact (Bm.1 hx).1
  rw [Dz m] at d;obtain rfl:=Bu d;obtain rfl:=Bu (hx.symm.trans hy);exact W _ hr
 ·rw [BZ e] at d
  exact W _ (h3 j r' y d hy)
def Jn (N base:Nat) (w:World) (s:St) (v1 v2 v3 v4 v5 v6 v7:Value):Prop :=
 ∃ F:Nat→Nat→Prop,(∀ i b,F i b→b<N∨base≤b) ∧
  QK (F 1) w (fun w2=>Qt ClR 4 w2 w2.heap.size v1 s.clients) ∧
  Jy 82 Q5 4 w base v2 s.conns∧Jy 86 Qr 7 w base v3 s.chans ∧
  QK (F 4) w (fun w2=>Qt MkR 3 w2 w2.heap.size v4 s.sent)∧QK (F 5) w (fun w2=>Qt MkR 3 w2 w2.heap.size v5 s.got)∧QK (F 6) w (fun w2=>Qt MkR 3 w2 w2.heap.size v6 s.acks) ∧
  Jy 70 YN 3 w base v7 s.purses ∧
  (∀ b,v2.ownBlock=some b→F 2 b∧∀ i,i≠2→¬ F i b)∧(∀ b,v3.ownBlock=some b→F 3 b∧∀ i,i≠3→¬ F i b)∧(∀ b,v7.ownBlock=some b→F 7 b∧∀ i,i≠7→¬ F i b)
theorem Jn.mem {base:Nat} (h:Jn N base w s v1 v2 v3 v4 v5 v6 v7):Zn w w.heap.size s v1 v2 v3 v4 v5 v6 v7:=by
 obtain ⟨F,_,h1,h2,h3,h4,h5,h6,h7,_⟩:=h;exact ⟨h1.now,h2.held.now,h3.held.now,h4.now,h5.now,h6.now,h7.held.now⟩
theorem Jn.conns {base:Nat} (h:Jn N base w s v1 v2 v3 v4 v5 v6 v7):Jy 82 Q5 4 w base v2 s.conns:=by grind [Jn]
theorem Jn.chans {base:Nat} (h:Jn N base w s v1 v2 v3 v4 v5 v6 v7):Jy 86 Qr 7 w base v3 s.chans:=by grind [Jn]
theorem Jy.keep {α:Type} {t:TypeId} {c:α→List Value} {k:Nat} {w w':World} {base:Nat} {v:Value} {l:List α} (h:Jy t c k w base v l) (hk:∀ g,v.ownBlock=some g→w'.heap[g]?=w.heap[g]?):Jy t c k w' base v l:=Qf.keep h hk
theorem Jn.on {base:Nat} (h:Jn N base w s v1 v2 v3 v4 v5 v6 v7) (hb:Below 0 w w') (hk:∀ b,b<w.heap.size→b<N∨base≤b→w'.heap[b]?=w.heap[b]?):Jn N base w' s v1 v2 v3 v4 v5 v6 v7:=by
 obtain ⟨F,h0,h1,h2,h3,h4,h5,h6,h7,k2,k3,k7⟩:=h;have H:∀ (i:Nat) (P:World→Prop),QK (F i) w P→QK (F i) w' P:=fun i P hP=>hP.on hb (fun b hF=>hk b (hP.1 b hF) (h0 i b hF))
 exact ⟨F,h0,H _ _ h1,h2.keep fun b d=>hk b (h2.own b d).2 (h0 2 b (k2 b d).1),h3.keep fun b d=>hk b (h3.own b d).2 (h0 3 b (k3 b d).1),H _ _ h4,H _ _ h5,H _ _ h6,h7.keep fun b d=>hk b (h7.own b d).2 (h0 7 b (k7 b d).1),k2,k3,k7⟩
theorem Jn.below {base:Nat} (h:Jn N base w s v1 v2 v3 v4 v5 v6 v7) (hb:Bd w w'):Jn N base w' s v1 v2 v3 v4 v5 v6 v7 :=
 h.on (hb.mono (by omega)) (fun b d _=>hb.block b d)
theorem Jn.setCell {base:Nat} (h:Jn N base w s v1 v2 v3 v4 v5 v6 v7) {a:Addr} (ha:N≤a.block) (hb:a.block<base) (x:Value):Jn N base (w.setCell a x) s v1 v2 v3 v4 v5 v6 v7 :=
 h.on ((Bi 0 w).setCell (BJ _) x) (fun b _ hlt=>DN _ _ _ _ (by omega))
theorem Jn.putConns {base:Nat} (h:Jn N base w s v1 v2 v3 v4 v5 v6 v7) {d:Value} {l:List Cn} (hg:w.grownBy w' v2.ownBlock) (hl:Jy 82 Q5 4 w' base d l) (hn:∀ b,d.ownBlock=some b→v2.ownBlock=some b∨w.heap.size≤b) :
  Jn N base w' { s with conns:=l } v1 d v3 v4 v5 v6 v7:=by
 obtain ⟨F,h0,h1,h2,h3,h4,h5,h6,h7,k2,k3,k7⟩:=h
 have z:∀ i b,(i=1∨i=4∨i=5∨i=6)→F i b→b<w.heap.size:=fun i b hi hF=>by
  rcases hi with rfl | rfl | rfl | rfl
  ·exact h1.1 b hF
  ·exact h4.1 b hF
  ·exact h5.1 b hF
  ·exact h6.1 b hF
 refine ⟨fun i b=>(i=2∧d.ownBlock=some b)∨(i=3∧v3.ownBlock=some b)∨(i=7∧v7.ownBlock=some b)∨((i=1∨i=4∨i=5∨i=6)∧F i b),fun i b hF=>?_,?_⟩
 ·rcases hF with ⟨rfl,e⟩ | ⟨rfl,e⟩ | ⟨rfl,e⟩ | ⟨_,hF⟩
  ·exact .inr (hl.own b e).1
  ·exact h0 3 b (k3 b e).1
  ·exact h0 7 b (k7 b e).1
  ·exact h0 i b hF
 ·have H:∀ (i:Nat) (P:World→Prop),(i=1∨i=4∨i=5∨i=6)→QK (F i) w P→QK (fun b=>(i=2∧d.ownBlock=some b)∨(i=3∧v3.ownBlock=some b)∨(i=7∧v7.ownBlock=some b)∨((i=1∨i=4∨i=5∨i=6)∧F i b)) w' P:=fun i P hi hP=>by
   have m:=hP.grown hg (fun b e=>(k2 b e).2 i (by omega))
   exact m.wide (fun b hF=>.inr (.inr (.inr ⟨hi,hF⟩))) (fun b hF=>by
    rcases hF with ⟨rfl,_⟩ | ⟨rfl,_⟩ | ⟨rfl,_⟩ | ⟨_,hF⟩
    ·omega
    ·omega
    ·omega
    ·exact m.1 b hF)
  have n3:∀ b,v3.ownBlock=some b→some b≠v2.ownBlock:=fun b e e2=>(k3 b e).2 2 (by omega) (k2 b e2.symm).1
  have n7:∀ b,v7.ownBlock=some b→some b≠v2.ownBlock:=fun b e e2=>(k7 b e).2 2 (by omega) (k2 b e2.symm).1
  have q:∀ b,v3.ownBlock=some b→v7.ownBlock≠some b:=fun b e e2=>(k3 b e).2 7 (by omega) (k7 b e2).1
  refine ⟨H 1 _ (.inl rfl) h1,hl,h3.keep fun b e=>hg.block b (h3.own b e).2 (n3 b e),H 4 _ (.inr (.inl rfl)) h4,H 5 _ (.inr (.inr (.inl rfl))) h5,H 6 _ (.inr (.inr (.inr rfl))) h6,h7.keep fun b e=>hg.block b (h7.own b e).2 (n7 b e),fun b e=>⟨.inl ⟨rfl,e⟩,fun i hi hF=>?_⟩,fun b e=>⟨.inr (.inl ⟨rfl,e⟩),fun i hi hF=>?_⟩,fun b e=>⟨.inr (.inr (.inl ⟨rfl,e⟩)),fun i hi hF=>?_⟩⟩
  ·rcases hF with ⟨rfl,_⟩ | ⟨rfl,e'⟩ | ⟨rfl,e'⟩ | ⟨j,hF⟩
   ·exact hi rfl
   ·rcases hn b e with e2 | hge
    ·exact n3 b e' e2.symm
    ·have:=(h3.own b e').2;omega
   ·rcases hn b e with e2 | hge
    ·exact n7 b e' e2.symm
    ·have:=(h7.own b e').2;omega
   ·rcases hn b e with e2 | hge
    ·exact (k2 b e2).2 i (by omega) hF
    ·have:=z i b j hF;omega
  ·rcases hF with ⟨rfl,e'⟩ | ⟨rfl,e'⟩ | ⟨rfl,e'⟩ | ⟨j,hF⟩
   ·rcases hn b e' with e2 | hge
    ·exact n3 b e e2.symm
    ·have:=(h3.own b e).2;omega
   ·exact hi rfl
   ·exact q b e e'
   ·exact (k3 b e).2 i (by omega) hF
  ·rcases hF with ⟨rfl,e'⟩ | ⟨rfl,e'⟩ | ⟨rfl,e'⟩ | ⟨j,hF⟩
   ·rcases hn b e' with e2 | hge
    ·exact n7 b e e2.symm
    ·have:=(h7.own b e).2;omega
   ·exact q b e' e
   ·exact hi rfl
   ·exact (k7 b e).2 i (by omega) hF
end Go.Proofs.YtnedafiokmjkkaaGreatDoor
