/-
  What a state is, what is wrong with one, and its book.
-/
import Derived.Test.YtooemgkjkngpcaaGreatDoorteMemB
import Derived.Test.YtooemgkjkngpcaaGreatDoorteClMem
import Derived.Test.YtooemgkjkngpcaaGreatDoortePairsAll
import Derived.Test.YtooemgkjkngpcaaGreatDoorteBookMath
import Derived.Test.YtooemgkjkngpcaaGreatDoorteBookTree
import Derived.Test.YtooemgkjkngpcaaGreatDoorteShaAll
import Derived.Test.YtooemgkjkngpcaaGreatDoorteWireBoth
import Derived.Laws.BytesArg
import Derived.Lib.Bytes
import Derived.Lib.SliceRun
import Derived.Lib.ItoaNum
import Derived.Lib.BytesEntry
import Derived.Lib.Bytealg
import Derived.Laws.Externs
namespace Go.Proofs.YtooemgkjkngpcaaGreatDoor
set_option maxRecDepth 1000000
set_option maxHeartbeats 8000000
open Go.RowKit
theorem QcR {w:World} {N:Nat} {sv:Value} {l:List (BitVec 8)} (h:Bytes w N sv l):(convert 35 9 sv).run Tryz.prog w=.ok (.string (strOfNums (l.map b8))) w:=by
 have zero:∀ (p:Option Addr) (c:Nat),(convert 35 9 (.slice p 0 c)).run Tryz.prog w=.ok (.string (strOfNums [])) w:=fun p c=>by
  rw [run_convert_bytes_string w 35 9 5 _ 0 c Tryz.underlying35 Tryz.underlying5 Tryz.underlying9]
  cases p <;> simp [Conv.bytesToString,loadCells]
  all_goals rfl
 rcases h with ⟨rfl,rfl⟩ | ⟨a,cap,rfl,rfl⟩ | ⟨b,off,cap,rfl,_,hc⟩
 ·exact zero _ _
 ·exact zero _ _
 ·refine run_convert_bytes_arg w 35 5 Tryz.underlying35 Tryz.underlying5 b off l.length cap (l.map b8) (by simp) (fun i hi=>?_) 9 Tryz.underlying9
  rw [(hc i hi).2]
  simp [hi]
theorem Qko {x y:BitVec 8} (h:UInt8.ofNat (b8 x).toNat=UInt8.ofNat (b8 y).toNat):x=y:=by
 have:=congrArg UInt8.toNat h
 have hx:=x.isLt
 have hy:=y.isLt
 unfold b8 at this
 simp at this
 exact BitVec.eq_of_toNat_eq (by omega)
theorem Qgz:∀ {l m:List (BitVec 8)},(l.map b8).map (fun n=>UInt8.ofNat n.toNat)=(m.map b8).map (fun n=>UInt8.ofNat n.toNat)→l=m
 | [],[],_=>rfl
 | [],_ :: _,h=>by simp at h
 | _ :: _,[],h=>by simp at h
 | x :: l,y :: m,h=>by
  simp only [List.map_cons,List.cons.injEq] at h
  rw [Qko h.1,Qgz h.2]
theorem Qkb (l m:List (BitVec 8)):((strOfNums (l.map b8)).toList == (strOfNums (m.map b8)).toList)=decide (l=m):=by
 by_cases e:l=m
 ·subst e
  simp
 ·rw [decide_eq_false e]
  rw [beq_eq_false_iff_ne]
  intro h
  refine e (Qgz ?_)
  rw [Lib.strOfNums_toList,Lib.strOfNums_toList] at h
  exact h
theorem QbX (l m:List (BitVec 8)) (sa sb:Value) (N M:Nat) (w:World) (ha:Bytes w N sa l) (hb:Bytes w M sb m) :
  Calls Tryz.prog 139 #[sa,sb] w fun e w'=>e=.returned (.bool (decide (l=m)))∧w'=w:=by
 have h1:=QcR ha
 have h2:=QcR hb
 have HE:=hid (Qkb l m)
 obtain ⟨oa,ca,rfl,hca⟩:=ha.shape
 obtain ⟨ob,cb,rfl,hcb⟩:=hb.shape
 clear ha hb
 generalize strOfNums (l.map b8)=sl at *
 generalize strOfNums (m.map b8)=sm at *
 generalize l.length=n at *
 generalize m.length=n' at *
 go_enter Tryz.func139,Tryz.ntmps139
 go_wp2_with (simp only [h1,h2])
 go_ret
 exact ⟨by rw [HE.out];rfl,rfl⟩
theorem Qa4 (l:List (BitVec 8)) (sv:Value) (N:Nat) (w:World) (h:Bytes w N sv l) (hl:l.length≤140737488351232) :
  Calls Tryz.prog 112 #[sv] w fun e w'=>Below w.heap.size w w'∧∃ v,e=.returned v∧Qs w' w.heap.size v l:=by
 have q:∀ (w:World) (a:Option Addr) (n c n' c':Nat),(binOp .eql 35 (.slice a n c) (.slice none n' c')).run Tryz.prog w=.ok (.bool a.isNone) w:=fun w a n c n' c'=>Lib.run_eql_slice_nil w _ _ a n c n' c' Tryz.underlying35
 obtain ⟨oa,ca,rfl,hca⟩:=h.shape
 cases oa with
 | none =>
  obtain ⟨rfl,rfl⟩:l=[]∧ca=0:=by
   rcases h with ⟨h1,h2⟩ | ⟨a,c,h1,_⟩ | ⟨b,o,c,h1,_⟩
   ·exact ⟨h2,by simp at h1;exact h1.2⟩
   ·simp at h1
   ·simp at h1
  go_enter Tryz.func112,Tryz.ntmps112
  go_wp2
  go_ret
  exact ⟨Below.refl _ _,_,rfl,Qs.nil _ _⟩
 | some a =>
  obtain ⟨w1,hw1⟩:∃ w1,w.alloc (.cells #[] 5)=w1:=⟨_,rfl⟩
  have hb1:=bof hw1
  have hown:Qs w1 w.heap.size (.slice (some ⟨w.heap.size,0,none⟩) 0 0) []:=by
   refine ⟨rfl,.inr ⟨w.heap.size,0,#[],rfl,Nat.le_refl _,?_,Nat.le_refl _,by simp [maxLen],rfl,rfl⟩⟩
   rw [← hw1]
   exact heap_alloc_new _ _
  have hsrc:Bytes w1 w1.heap.size (.slice (some a) l.length ca) l:=by
   rcases h with ⟨h1,_⟩ | ⟨a',c,h1,h2⟩ | ⟨b,o,c,h1,h2,h3⟩
   ·simp at h1
   ·subst h2
    exact .inr (.inl ⟨a,ca,rfl,rfl⟩)
   ·refine .inr (.inr ⟨b,o,ca,by simp at h1;rw [h1.1],hca,fun i hi=>?_⟩)
    have hb:=block_lt_of_cell (h3 i hi).2
    exact ⟨Nat.lt_of_lt_of_le hb hb1.size,(hb1.cell hb).trans (h3 i hi).2⟩
  have HO:=hid hown
  have HS:=hid hsrc
  have HB:=hid hb1
  have HL:=hid hl
  have HSZ:=hid hb1.size
  have HW1:=hid hw1
  clear h hl hown hsrc hb1 hw1
  generalize hn:l.length=n at *
  have HN:=hid hn
  clear hn
  go_enter Tryz.func112,Tryz.ntmps112
  go_wp2_with (at_builtin;rw [HW1.out];refine Q5 rfl (.tmp 5) (.tmp 6) rfl w.heap.size _ [] rfl HO.out _ l rfl HS.out (by have:=HL.out;rw [List.length_nil,HN.out];omega) HSZ.out ?_;intro v' w' g1 g2 g3;have G1:=hid g1;have G2:=hid g2;clear g1 g2 g3)
  go_ret
  exact ⟨HB.out.trans G2.out,_,rfl,G1.out⟩
theorem Qeb (l m:List (BitVec 8)) (k:Nat) (hl:k<l.length) (hm:k<m.length) (h:l.take k=m.take k) (hx:l.getD k 0=m.getD k 0):l.take (k+1)=m.take (k+1):=by
 rw [List.take_succ_eq_append_getElem hl,List.take_succ_eq_append_getElem hm,h]
 simp [hl,hm] at hx
 rw [hx]
theorem Zt (l m:List (BitVec 8)) (sa sb:Value) (Na Nb:Nat) (w:World) (ha:Bytes w Na sa l) (hb:Bytes w Nb sb m) (hlen:l.length<2305843009213693952) (hlem:m.length<2305843009213693952) :
  Calls Tryz.prog 14 #[sa,sb] w fun e w'=>e=.returned (.bool (decide (l=m)))∧∃ n,w'=w.drewN n:=by
 obtain ⟨oa,ca,rfl,hca⟩:=ha.shape
 obtain ⟨ob,cb,rfl,hcb⟩:=hb.shape
 by_cases hne:l.length=m.length
 ·have HA:=hid ha
  have HB:=hid hb
  clear ha hb
  rw [← hne] at HB hcb hlem ⊢
  have HE:=hid hne
  clear hne
  generalize hn:l.length=n at *
  have HN:=hid hn
  clear hn
  have hnn:((n:Int) != (n:Int))=false:=by simp
  go_enter Tryz.func14,Tryz.ntmps14
  go_wp2_with fail
  go_loopw [13] (fun i wr=>∃ k q:Nat,k≤n∧i=.int .i64 k∧wr=w.drewN q∧Hid (l.take k=m.take k)) (fun i _=>n-(intOf i).toNat)
  case atStart=>exact ⟨0,0,by omega,rfl,rfl,rfl⟩
  case round =>
   obtain ⟨k,q,hk,rfl,rfl,HT⟩:=hrel
   by_cases hlt:k<n
   ·have h1:Bytes w Na (.slice oa l.length ca) l:=by rw [HN.out];exact HA.out
    have h2:Bytes w Nb (.slice ob m.length cb) m:=by rw [← HE.out];exact HB.out
    obtain ⟨b1,o1,rfl,c1⟩:=h1.some (by rw [HN.out];omega)
    obtain ⟨b2,o2,rfl,c2⟩:=h2.some (by rw [← HE.out];omega)
    have d1:=(c1 k (by rw [HN.out];exact hlt)).2
    have d2:=(c2 k (by rw [← HE.out];exact hlt)).2
    obtain ⟨x,hx⟩:∃ x,l.getD k 0=x:=⟨_,rfl⟩
    obtain ⟨y,hy⟩:∃ y,m.getD k 0=y:=⟨_,rfl⟩
    rw [hx] at d1
    rw [hy] at d2
    have HX:=hid hx
    have HY:=hid hy
    clear h1 h2 c1 c2 hx hy
    have hlt':(k:Int)<(n:Int):=by omega
    by_cases hxy:x=y
    ·subst hxy
     have hnx:(b8 x != b8 x)=false:=by simp
     go_wp2_with fail
     refine JM (by kernel_rfl) (by kernel_rfl) ?_
     repeat still_step
     refine wpStill_nil ?_
     go_wp2
     go_roundw
     case rel=>exact ⟨k+1,q+1,by omega,by go_num,rfl,Qeb l m k (by rw [HN.out];exact hlt) (by rw [← HE.out];exact hlt) HT.out (HX.out.trans HY.out.symm)⟩
     case measure=>simp [intOf];omega
    ·have hnx:(b8 x != b8 y)=true:=by
      simp only [bne_iff_ne,ne_eq]
      intro h
      exact hxy (Qkx h)
     have HNE:=hid (show decide (l=m)=false by
      apply decide_eq_false
      rintro rfl
      exact hxy (HX.out.symm.trans HY.out))
     clear hxy
     go_wp2_with fail
     refine JM (by kernel_rfl) (by kernel_rfl) ?_
     repeat still_step
     refine wpStill_nil ?_
     go_wp2
     go_ret
     exact ⟨by rw [HNE.out];rfl,q+1,rfl⟩
   ·have HEQ:=hid (show decide (l=m)=true by
     apply decide_eq_true
     have:=HT.out
     rwa [List.take_of_length_le (by rw [HN.out];omega),List.take_of_length_le (by rw [← HE.out];omega)] at this)
    go_wp2
    go_ret
    exact ⟨by rw [HEQ.out];rfl,q,rfl⟩
 ·have hnn:((l.length:Int) != (m.length:Int))=true:=by simp;omega
  have HNE:=hid (show decide (l=m)=false by apply decide_eq_false;rintro rfl;exact hne rfl)
  clear ha hb
  go_enter Tryz.func14,Tryz.ntmps14
  go_wp2
  go_ret
  exact ⟨by rw [HNE.out];rfl,0,rfl⟩
structure Cn where
 state:Int
 client:Int
 oclient:Int
 oconn:Int
structure Ch where
 state:Int
 ordered:Bool
 conn:Int
 ochan:Int
 send:Int
 recv:Int
 ack:Int
structure Mk where
 chan:Int
 seq:Int
 dig:List (BitVec 8)
structure Pu where
 owner:ByteArray
 denom:ByteArray
 amount:Nat
structure St where
 name:ByteArray
 height:Int
 time:Int
 clients:List Cl
 conns:List Cn
 chans:List Ch
 sent:List Mk
 got:List Mk
 acks:List Mk
 purses:List Pu
def St.none:St:=⟨⟨#[]⟩,0,0,[],[],[],[],[],[],[]⟩
def Mk.fits (m:Mk):Prop:=m.dig.length≤140737488351232
def Pu.fits (p:Pu):Prop:=p.owner.size≤140737488351232∧p.denom.size≤140737488351232∧p.amount<18446744073709551616
def St.fits (s:St):Prop:=s.name.size≤140737488351232∧(s.clients.length<2305843009213693952∧∀ c∈s.clients,c.fits)∧s.conns.length<2305843009213693952∧s.chans.length<2305843009213693952 ∧
 (s.sent.length<2305843009213693952∧∀ m∈s.sent,m.fits)∧(s.got.length<2305843009213693952∧∀ m∈s.got,m.fits)∧(s.acks.length<2305843009213693952∧∀ m∈s.acks,m.fits)∧s.purses.length<2305843009213693952∧∀ p∈s.purses,p.fits
def Qg (lo n:Int):Bool:=decide (lo≤n) && decide (n≤1000000000000)
theorem QW (lo n:Int):Qg lo n=true↔lo≤n∧n≤1000000000000:=by simp [Qg]
def Qk (c:Cn):Int:=if c.state<1∨3<c.state then 1 else if (Qg 0 c.client && (Qg 0 c.oclient && Qg (-1) c.oconn))=false then 3 else 0
def Ql (c:Ch):Int:=if c.state<1∨4<c.state then 1 else if (Qg 0 c.conn && (Qg (-1) c.ochan && (Qg 1 c.send && (Qg 1 c.recv && Qg 1 c.ack))))=false then 3 else 0
def QB (m:Mk):Int:=if (Qg 0 m.chan && Qg 1 m.seq)=false then 3 else if m.dig.length≠32 then 2 else 0
def QT (a b:Mk):Bool:=decide (a.chan<b.chan∨a.chan=b.chan∧a.seq<b.seq)
def Qbx (s:ByteArray):Bool:=decide (1≤s.size) && decide (s.size≤40)
def QD (p:Pu):Int:=if (Qbx p.owner && Qbx p.denom)=false then 4 else if p.amount=0 then 3 else 0
def QcE (a b:ByteArray):Bool:=Op.bytesLess a.toList b.toList
def Je (a b:Pu):Bool:=QcE a.owner b.owner || (decide (a.owner=b.owner) && QcE a.denom b.denom)
def Qe {α:Type} (f:α→Int):List α→Int
 | []=>0
 | x :: r=>if f x≠0 then f x else Qe f r
def Yp {α:Type} (lt:α→α→Bool):Option α→α→Bool
 | none,_=>true
 | some a,x=>lt a x
def YR {α:Type} (f:α→Int) (lt:α→α→Bool) (p:Option α):List α→Int
 | []=>0
 | x :: r=>if f x≠0 then f x else if Yp lt p x=false then 2 else YR f lt (some x) r
def orN:List Int→Int
 | []=>0
 | x :: r=>if x≠0 then x else orN r
def Qb3 (s:St):Bool:=decide (4<s.clients.length∨8<s.conns.length∨8<s.chans.length∨50<s.sent.length∨50<s.got.length∨50<s.acks.length∨60<s.purses.length)
def Qq (l:List Mk):Int:=YR QB QT none l
def QE (l:List Pu):Int:=YR QD Je none l
def YF (s:St):Int:=orN [Qe Qi s.clients,Qe Qk s.conns,Qe Ql s.chans,Qq s.sent,Qq s.got,Qq s.acks,QE s.purses]
def Qm (s:St):Int:=if JY s.name=false then 7 else if (Qg 0 s.height && Qg 0 s.time)=false then 3 else if Qb3 s=true then 5 else YF s
theorem Qaj {α:Type} (f:α→Int):∀ (l:List α),Qe f l=0↔∀ x∈l,f x=0
 | []=>by simp [Qe]
 | x :: r=>by
  rw [Qe]
  by_cases h:f x=0
  ·rw [if_neg (by simp [h]),Qaj f r];simp [h]
  ·rw [if_pos h];simp [h]
theorem Qd4:∀ (l:List Int),orN l=0↔∀ x∈l,x=0
 | []=>by simp [orN]
 | x :: r=>by
  rw [orN]
  by_cases h:x=0
  ·rw [if_neg (by simp [h]),Qd4 r];simp [h]
  ·rw [if_pos h];simp [h]
theorem Qd5 {a b c:Mk} (h1:QT a b=true) (h2:QT b c=true):QT a c=true:=by
 simp [QT] at *;omega
theorem QgC {α:Type} {f:α→Int} {lt:α→α→Bool} (ht:∀ a b c,lt a b=true→lt b c=true→lt a c=true):∀ (l:List α) (p:Option α),YR f lt p l=0→(∀ x∈l,f x=0)∧(∀ a,p=some a→∀ x∈l,lt a x=true)∧l.Pairwise fun a b=>lt a b=true
 | [],_,_=>⟨fun _ h=>(by cases h),fun _ _ _ h=>(by cases h),List.Pairwise.nil⟩
 | x :: r,p,h=>by
  rw [YR] at h
  by_cases h1:f x=0
  ·rw [if_neg (by simp [h1])] at h
   cases h2:Yp lt p x with
   | false=>rw [h2,if_pos rfl] at h;cases h
   | true =>
    rw [h2,if_neg (by simp)] at h
    obtain ⟨g1,g2,g3⟩:=QgC ht r (some x) h
    refine ⟨fun y hy=>?_,fun a ha y hy=>?_,List.pairwise_cons.2 ⟨g2 x rfl,g3⟩⟩
    ·rcases List.mem_cons.1 hy with rfl | hy
     ·exact h1
     ·exact g1 y hy
    ·subst ha
     have hx:lt a x=true:=h2
     rcases List.mem_cons.1 hy with rfl | hy
     ·exact hx
     ·exact ht _ _ _ hx (g2 x rfl y hy)
  ·rw [if_pos h1] at h;exact absurd h h1
structure QkM (s:St):Prop where
 many:s.conns.length≤8∧s.chans.length≤8∧s.sent.length≤50∧s.got.length≤50∧s.acks.length≤50
 conns:∀ c∈s.conns,Qk c=0
 chans:∀ c∈s.chans,Ql c=0
 sent:(∀ m∈s.sent,QB m=0)∧s.sent.Pairwise fun a b=>QT a b=true
 got:(∀ m∈s.got,QB m=0)∧s.got.Pairwise fun a b=>QT a b=true
 acks:(∀ m∈s.acks,QB m=0)∧s.acks.Pairwise fun a b=>QT a b=true
theorem QbJ {l:List Mk} (h:Qq l=0):(∀ m∈l,QB m=0)∧l.Pairwise fun a b=>QT a b=true :=
 have:=QgC (f:=QB) (lt:=QT) (fun _ _ _ h1 h2=>Qd5 h1 h2) l none h
 ⟨this.1,this.2.2⟩
theorem JN {s:St} (h:Qm s=0):QkM s:=by
 unfold Qm at h
 split at h
 ·cases h
 split at h
 ·cases h
 split at h
 ·cases h
 rename_i hm
 have hm':¬ (4<s.clients.length∨8<s.conns.length∨8<s.chans.length∨50<s.sent.length∨50<s.got.length∨50<s.acks.length∨60<s.purses.length):=fun e=>hm (decide_eq_true e)
 have h':=(Qd4 _).1 h
 simp only [List.mem_cons,List.not_mem_nil,or_false,forall_eq_or_imp,forall_eq] at h'
 obtain ⟨_,h2,h3,h4,h5,h6,_⟩:=h'
 exact ⟨by omega,(Qaj _ _).1 h2,(Qaj _ _).1 h3,QbJ h4,QbJ h5,QbJ h6⟩
def YH (n:Nat):List (BitVec 8):=(Lib.decDigits n).map fun x=>x.toBitVec
theorem Z9 {n:Nat} (h:n<10):YH n=[BitVec.ofNat 8 (48+n)]:=by unfold YH;rw [Lib.decDigits,dif_pos h];rfl
theorem Qet {n:Nat} (h:¬ n<10):YH n=YH (n / 10) ++ [BitVec.ofNat 8 (48+n % 10)]:=by unfold YH;rw [Lib.decDigits,dif_neg h,List.map_append];rfl
theorem Zv:∀ (k n:Nat),n<10 ^ (k+1)→(YH n).length≤k+1
 | 0,n,h=>by rw [Z9 (by simpa using h)];simp
 | k+1,n,h=>by
  by_cases h1:n<10
  ·rw [Z9 h1];simp
  ·rw [Qet h1,List.length_append]
   have:=Zv k (n / 10) (by rw [Nat.pow_succ] at h;omega)
   simp;omega
def Jo (k:List (BitVec 8)):List Nat→List (BitVec 8)
 | []=>k
 | n :: l=>k ++ 47 :: Jo (YH n) l
def ZX (n:Int):Pc:=⟨1,n.toNat,[]⟩
def ZU (l:List Int):List (BitVec 8):=Yk l.length ++ wrs (l.map ZX)
def JA (c:Cn):List (BitVec 8):=ZU [c.state,c.client,c.oclient,c.oconn+1]
def QkN (c:Ch):List (BitVec 8):=ZU [c.state,if c.ordered=true then 1 else 0,c.conn,c.ochan+1]
def QN:List (BitVec 8):=[99,111,110,110]
def Qkh:List (BitVec 8):=[99,104,97,110]
def Qkd:List (BitVec 8):=[110,101,120,116]
def Qkq:List (BitVec 8):=[115,101,110,116]
def QkL:List (BitVec 8):=[103,111,116]
def QkD:List (BitVec 8):=[97,99,107]
def QkH (x:Cn×Nat):Dg:=⟨Jo QN [x.2],JA x.1,false⟩
def QkO (x:Ch×Nat):List Dg:=[⟨Jo Qkh [x.2],QkN x.1,false⟩,⟨Jo Qkd [x.2],ZU [x.1.recv],false⟩]
def Qig (k:List (BitVec 8)) (m:Mk):Dg:=⟨Jo k [m.chan.toNat,m.seq.toNat],m.dig,false⟩
def QkQ (s:St):List Dg:=s.conns.zipIdx.map QkH ++ (s.chans.zipIdx.flatMap QkO ++ (s.sent.map (Qig Qkq) ++ (s.got.map (Qig QkL) ++ s.acks.map (Qig QkD))))
theorem QdR (l:List Int) (hl:l.length≤4) (hn:∀ n∈l,n.toNat<18446744073709551616):ZL (l.map ZX)=.ok (ZU l)∧(ZU l).length≤60:=by
 have hw:∀ (m:List Int),(∀ n∈m,n.toNat<18446744073709551616)→(wrs (m.map ZX)).length≤11*m.length:=by
  intro m
  induction m with
  | nil=>intro _;simp [wrs]
  | cons a m ih =>
   intro h
   have h1:=ih (fun n hn=>h n (List.mem_cons_of_mem _ hn))
   have h2:=JQ a.toNat (h a List.mem_cons_self)
   have e:wrs ((a :: m).map ZX)=(0 :: Yk a.toNat) ++ wrs (m.map ZX):=by simp [wrs,ZX,Pc.wr]
   rw [e,List.length_append,List.length_cons,List.length_cons]
   omega
 have h1:=hw l hn
 have h2:=JQ l.length (by omega)
 have h3:(ZU l).length≤60:=by unfold ZU;rw [List.length_append];omega
 refine ⟨?_,h3⟩
 unfold ZL
 rw [if_neg (by rw [List.length_map];omega),List.length_map,QjZ _ _ _ (fun p hp=>by obtain ⟨n,_,rfl⟩:=List.mem_map.1 hp;exact .inl rfl) (by have:=h3;unfold ZU at this;omega)]
 rfl
theorem Jx {c:Cn} (h:Qk c=0):(1≤c.state∧c.state≤3)∧(0≤c.client∧c.client≤1000000000000)∧(0≤c.oclient∧c.oclient≤1000000000000)∧(-1≤c.oconn∧c.oconn≤1000000000000):=by
 unfold Qk at h
 split at h
 ·cases h
 split at h
 ·cases h
 rename_i h1 h2
 simp only [Bool.not_eq_false,Bool.and_eq_true,QW] at h2
 exact ⟨by omega,h2.1,h2.2.1,h2.2.2⟩
end Go.Proofs.YtooemgkjkngpcaaGreatDoor
