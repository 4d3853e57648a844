/-
  Plain mathematics of books: bytes in order, pairs by their keys, doings, and what stands under a key; a book knows no past. No program is named here. What a key's place in a book says: what stands under it, what dropping it, and setting it, makes. No program is named here.
  Plain mathematics of proofs: the way from the root of a tree to a place, what stands on its other sides, what is reckoned from a leaf upwards; where two reckonings meet, what is beneath is the same, or two lists of bytes have one digest. No program is named here.
  Proofs and gaps as values: what their cells read as. No function of the program is named here.
  Plain mathematics of what a proof's digests are of: layers from the root down to the pair. Where two proofs of one root part first, two lists of bytes have one digest. No program is named here.
  What math/bits.Len of small numbers, and package book's split, answer.
  What the document's Join and Four answer: bytes one behind the other, in new memory; a number in four bytes.
-/
import Derived.Test.YtbgdpfeobklnhaaGreatDoorcvMemB
import Derived.Lib.Walk
import Derived.Lib.BitFns
namespace Go.Proofs.YtbgdpfeobklnhaaGreatDoor
set_option maxRecDepth 1000000
set_option maxHeartbeats 8000000
def Qfa:List (BitVec 8)→List (BitVec 8)→Bool
  | [],[]=>false
  | [],_ :: _=>true
  | _ :: _,[]=>false
  | x :: a,y :: b=>if x=y then Qfa a b else decide (x.toNat<y.toNat)
structure Pr where
  key:List (BitVec 8)
  val:List (BitVec 8)
structure Dg where
  key:List (BitVec 8)
  val:List (BitVec 8)
  gone:Bool
def QgK (k:List (BitVec 8)):List Pr→List Pr
  | []=>[]
  | p :: r=>if Qfa p.key k=true then p :: QgK k r else []
def Jx (k:List (BitVec 8)):List Pr→List Pr
  | []=>[]
  | p :: r=>if Qfa p.key k=true then Jx k r else p :: r
def Qcr (x:List Pr):List Dg:=(x.map fun p=>(⟨p.key,p.val,false⟩:Dg)).reverse
def QJ (n:Nat):List (BitVec 8):=[BitVec.ofNat 8 (n / 16777216 % 256),BitVec.ofNat 8 (n / 65536 % 256),BitVec.ofNat 8 (n / 256 % 256),BitVec.ofNat 8 (n % 256)]
def QY (k v:List (BitVec 8)):List (BitVec 8):=sha (0 :: (QJ k.length ++ (k ++ v)))
def Qc0 (a b:List (BitVec 8)):List (BitVec 8):=sha (1 :: (a ++ b))
def QhX (n:Nat) (t:List (BitVec 8)):List (BitVec 8):=sha (2 :: (QJ n ++ t))
def Qbz:Nat→Nat→Nat→Nat
  | 0,k,_=>k
  | f+1,k,n=>if n≤2*k∨k=0 then k else Qbz f (2*k) n
def Qbg (k n:Nat):Nat:=Qbz (n-k) k n
theorem Zt (f:Nat) {k n:Nat} (h:n≤2*k∨k=0):Qbz f k n=k:=by
  cases f with
  | zero=>rfl
  | succ f=>rw [Qbz,if_pos h]
theorem Qhq:∀ (f f' k n:Nat),n-k≤f→n-k≤f'→Qbz f k n=Qbz f' k n:=by
  intro f
  induction f with
  | zero=>intro f' k n h _;rw [Zt 0 (.inl (by omega)),Zt f' (.inl (by omega))]
  | succ f ih =>
    intro f' k n h h'
    by_cases hs:n≤2*k∨k=0
    · rw [Zt _ hs,Zt _ hs]
    · cases f' with
      | zero=>omega
      | succ f'=>rw [Qbz,Qbz,if_neg hs,if_neg hs,ih f' (2*k) n (by omega) (by omega)]
theorem Qb0 (k n:Nat):Qbg k n=if n≤2*k∨k=0 then k else Qbg (2*k) n:=by
  unfold Qbg
  split
  · rename_i h
    exact Zt _ h
  · rename_i h
    obtain ⟨m,hm⟩:∃ m,n-k=m+1:=⟨n-k-1,by omega⟩
    rw [hm,Qbz,if_neg h]
    exact Qhq _ _ _ _ (by omega) (Nat.le_refl _)
def Qx (n:Nat):Nat:=Qbg 1 n
theorem Qhr (k n:Nat) (hk:0<k) (h:k<n):0<Qbg k n∧Qbg k n<n:=by
  induction hd:n-k using Nat.strongRecOn generalizing k with
  | _ d ih =>
    rw [Qb0]
    split
    · exact ⟨hk,h⟩
    · exact ih (n-2*k) (by omega) (2*k) (by omega) (by omega) rfl
theorem Z3 (n:Nat) (h:2≤n):0<Qx n∧Qx n<n:=Qhr 1 n (by omega) (by omega)
def At (k:List (BitVec 8)) (l:List Pr) (i:Nat) (fd:Bool):Prop :=
  i≤l.length∧(∀ j p,j<i→l[j]?=some p→Qfa p.key k=true)∧(∀ j p,i≤j→l[j]?=some p→Qfa p.key k=false)∧(fd=true↔∃ p,l[i]?=some p∧p.key=k)
structure Tn where
  right:Bool
  frm:Nat
  n:Nat
def QbO:Nat→Nat→Nat→Nat→List Tn
  | 0,_,_,_=>[]
  | f+1,i,n,a=>if 1<n then (if i<Qx n then ⟨false,a+Qx n,n-Qx n⟩ :: QbO f i (Qx n) a else ⟨true,a,Qx n⟩ :: QbO f (i-Qx n) (n-Qx n) (a+Qx n)) else []
def JW (i n a:Nat):List Tn:=QbO n i n a
theorem QbP:∀ (f f' i n a:Nat),n≤f→n≤f'→QbO f i n a=QbO f' i n a
  | 0,0,_,_,_,_,_=>rfl
  | 0,f'+1,i,n,a,h,_=>by
    rw [QbO,QbO,if_neg (by omega)]
  | f+1,0,i,n,a,_,h=>by
    rw [QbO,QbO,if_neg (by omega)]
  | f+1,f'+1,i,n,a,h,h'=>by
    rw [QbO,QbO]
    by_cases hn:1<n
    · have hh:=Z3 n hn
      rw [if_pos hn,if_pos hn,QbP f f' i (Qx n) a (by omega) (by omega),QbP f f' (i-Qx n) (n-Qx n) (a+Qx n) (by omega) (by omega)]
    · rw [if_neg hn,if_neg hn]
theorem Qdl (i n a:Nat) (h:¬ 1<n):JW i n a=[]:=by
  unfold JW
  match n,h with
  | 0,_=>rfl
  | 1,_=>rw [QbO,if_neg (by omega)]
  | n+2,h=>omega
theorem Qca (i n a:Nat) (h:1<n) (hi:i<Qx n):JW i n a=⟨false,a+Qx n,n-Qx n⟩ :: JW i (Qx n) a:=by
  have hh:=Z3 n h
  unfold JW
  obtain ⟨m,rfl⟩:∃ m,n=m+1:=⟨n-1,by omega⟩
  rw [QbO,if_pos h,if_pos hi,QbP m (Qx (m+1)) i (Qx (m+1)) a (by omega) (Nat.le_refl _)]
theorem Qbm (i n a:Nat) (h:1<n) (hi:¬ i<Qx n):JW i n a=⟨true,a,Qx n⟩ :: JW (i-Qx n) (n-Qx n) (a+Qx n):=by
  have hh:=Z3 n h
  unfold JW
  obtain ⟨m,rfl⟩:∃ m,n=m+1:=⟨n-1,by omega⟩
  rw [QbO,if_pos h,if_neg hi,QbP m (m+1-Qx (m+1)) (i-Qx (m+1)) (m+1-Qx (m+1)) (a+Qx (m+1)) (by omega) (Nat.le_refl _)]
def upD:List Tn→List (List (BitVec 8))→List (BitVec 8)→List (BitVec 8)
  | t :: ts,d :: ds,x=>if t.right=true then Qc0 d (upD ts ds x) else Qc0 (upD ts ds x) d
  | _,_,x=>x
theorem Qg0 (ts:List Tn) (ds:List (List (BitVec 8))) (x:List (BitVec 8)) (hx:x.length=32):(upD ts ds x).length=32:=by
  match ts,ds with
  | [],_=>rw [upD];exact hx;simp
  | _ :: _,[]=>rw [upD];exact hx;simp
  | t :: ts,d :: ds =>
    rw [upD]
    split
    · exact Jb _
    · exact Jb _
structure Prf where
  index:Int
  size:Int
  key:List (BitVec 8)
  val:List (BitVec 8)
  path:List (List (BitVec 8))
def Prf.none:Prf:=⟨0,0,[],[],[]⟩
def Y5 (r:List (BitVec 8)) (p:Prf):Prop :=
  1≤p.size∧p.size≤200∧0≤p.index∧p.index<p.size∧p.key.length≤60∧p.val.length≤200∧p.path.length=(JW p.index.toNat p.size.toNat 0).length∧(∀ d∈p.path,d.length=32) ∧
  QhX p.size.toNat (upD (JW p.index.toNat p.size.toNat 0) p.path.reverse (QY p.key p.val))=r
structure Gp where
  hasL:Bool
  hasR:Bool
  left:Prf
  right:Prf
def Gp.none:Gp:=⟨false,false,Prf.none,Prf.none⟩
open Go.RowKit
def Jl (P:Prop) (e:Ending):Prop:=∃ bb,e=.returned (.bool bb)∧(bb=true↔P)
theorem Jl.yes {P:Prop} (h:P):Jl P (.returned (.bool true)):=⟨true,rfl,fun _=>h,fun _=>rfl⟩
theorem Jl.no {P:Prop} (h:¬ P):Jl P (.returned (.bool false)):=⟨false,rfl,(fun e=>absurd e (by decide)),fun e=>absurd e h⟩
theorem Q8.mono {w:World} {N M:Nat} {sv:Value} {ls:List (List (BitVec 8))} (h:Q8 w N sv ls) (hN:N≤M):Q8 w M sv ls:=by
  rcases h with h | h | ⟨b,off,cap,h1,h2,h3⟩
  · exact .inl h
  · exact .inr (.inl h)
  · refine .inr (.inr ⟨b,off,cap,h1,h2,fun i hi=>?_⟩)
    obtain ⟨hb,x,hx,hbx⟩:=h3 i hi
    exact ⟨Nat.lt_of_lt_of_le hb hN,x,hx,hbx.mono hN⟩
def Qa3 (w:World) (N:Nat) (v:Value) (p:Prf):Prop:=∃ kv vv pv,v=.agg #[.int .i64 p.index,.int .i64 p.size,kv,vv,pv]∧Bytes w N kv p.key∧Bytes w N vv p.val∧Q8 w N pv p.path
theorem Qa3.below {w w':World} {N:Nat} {v:Value} {p:Prf} (h:Qa3 w N v p) (hg:Below N w w'):Qa3 w' N v p:=by
  obtain ⟨kv,vv,pv,rfl,h1,h2,h3⟩:=h
  exact ⟨kv,vv,pv,rfl,h1.below hg,h2.below hg,h3.below hg⟩
theorem Qa3.mono {w:World} {N M:Nat} {v:Value} {p:Prf} (h:Qa3 w N v p) (hN:N≤M):Qa3 w M v p:=by
  obtain ⟨kv,vv,pv,rfl,h1,h2,h3⟩:=h
  exact ⟨kv,vv,pv,rfl,h1.mono hN,h2.mono hN,h3.mono hN⟩
def Prf.fits (p:Prf):Prop:=p.key.length≤140737488351232∧p.val.length≤140737488351232∧p.path.length<2305843009213693952∧∀ d∈p.path,d.length≤140737488351232
def GpV (w:World) (N:Nat) (v:Value) (g:Gp):Prop:=∃ k1 v1 p1 k2 v2 p2,v=.agg #[.bool g.hasL,.bool g.hasR,.int .i64 g.left.index,.int .i64 g.left.size,k1,v1,p1,.int .i64 g.right.index,.int .i64 g.right.size,k2,v2,p2] ∧
  Bytes w N k1 g.left.key∧Bytes w N v1 g.left.val∧Q8 w N p1 g.left.path∧Bytes w N k2 g.right.key∧Bytes w N v2 g.right.val∧Q8 w N p2 g.right.path
theorem GpV.below {w w':World} {N:Nat} {v:Value} {g:Gp} (h:GpV w N v g) (hg:Below N w w'):GpV w' N v g:=by
  obtain ⟨k1,v1,p1,k2,v2,p2,rfl,h1,h2,h3,h4,h5,h6⟩:=h
  exact ⟨k1,v1,p1,k2,v2,p2,rfl,h1.below hg,h2.below hg,h3.below hg,h4.below hg,h5.below hg,h6.below hg⟩
theorem GpV.mono {w:World} {N M:Nat} {v:Value} {g:Gp} (h:GpV w N v g) (hN:N≤M):GpV w M v g:=by
  obtain ⟨k1,v1,p1,k2,v2,p2,rfl,h1,h2,h3,h4,h5,h6⟩:=h
  exact ⟨k1,v1,p1,k2,v2,p2,rfl,h1.mono hN,h2.mono hN,h3.mono hN,h4.mono hN,h5.mono hN,h6.mono hN⟩
def Gp.fits (g:Gp):Prop:=g.left.fits∧g.right.fits
def upK (ws:List Tn) (path:List (List (BitVec 8))) (k:Nat) (x:List (BitVec 8)):List (BitVec 8):=upD (ws.drop (ws.length-k)) (path.take k).reverse x
theorem QfH (ws:List Tn) (path:List (List (BitVec 8))) (x:List (BitVec 8)):upK ws path 0 x=x:=by
  unfold upK
  rw [Nat.sub_zero,List.drop_length,List.take_zero,List.reverse_nil,upD]
  simp
theorem QfG (ws:List Tn) (path:List (List (BitVec 8))) (k:Nat) (x:List (BitVec 8)) (t:Tn) (d:List (BitVec 8)) (ht:ws[ws.length-1-k]?=some t) (hk:k<ws.length) (hd:path[k]?=some d) :
    upK ws path (k+1) x=if t.right=true then Qc0 d (upK ws path k x) else Qc0 (upK ws path k x) d:=by
  obtain ⟨h1,rfl⟩:=List.getElem?_eq_some_iff.1 ht
  obtain ⟨h2,rfl⟩:=List.getElem?_eq_some_iff.1 hd
  unfold upK
  rw [show ws.length-(k+1)=ws.length-1-k by omega,List.drop_eq_getElem_cons h1,show ws.length-1-k+1=ws.length-k by omega,List.take_succ_eq_append_getElem h2,List.reverse_append,List.reverse_singleton,List.singleton_append,upD]
theorem Qg3 (ws:List Tn) (path:List (List (BitVec 8))) (x:List (BitVec 8)) (h:path.length=ws.length):upK ws path ws.length x=upD ws path.reverse x:=by
  unfold upK
  rw [Nat.sub_self,List.drop_zero,List.take_of_length_le (by omega)]
theorem Qcy (ws:List Tn) (path:List (List (BitVec 8))) (k:Nat) (x:List (BitVec 8)) (hx:x.length=32):(upK ws path k x).length=32:=Qg0 _ _ _ hx
def Zu (k v:List (BitVec 8)):List (BitVec 8):=0 :: (QJ k.length ++ (k ++ v))
def Yz (a b:List (BitVec 8)):List (BitVec 8):=1 :: (a ++ b)
def QeD (n:Nat) (t:List (BitVec 8)):List (BitVec 8):=2 :: (QJ n ++ t)
def QcW:List Tn→List (List (BitVec 8))→List (BitVec 8)→List (List (BitVec 8))
  | t :: ts,d :: ds,lf=>(if t.right=true then Yz d (upD ts ds (sha lf)) else Yz (upD ts ds (sha lf)) d) :: QcW ts ds lf
  | _,_,lf=>[lf]
theorem Qe7 (ds:List (List (BitVec 8))) (lf:List (BitVec 8)):QcW [] ds lf=[lf]:=by rw [QcW];simp
theorem YY:∀ (ts:List Tn) (ds:List (List (BitVec 8))) (lf:List (BitVec 8)),ds.length=ts.length→(QcW ts ds lf).length=ts.length+1
  | [],ds,lf,_=>by rw [Qe7];rfl
  | t :: ts,[],lf,h=>by simp at h
  | t :: ts,d :: ds,lf,h=>by
    rw [QcW,List.length_cons,YY ts ds lf (by simpa using h)]
    rfl
def Qat (ws:List Tn) (path:List (List (BitVec 8))) (k:Nat) (lf:List (BitVec 8)):List (List (BitVec 8)):=(QcW (ws.drop (ws.length-k)) (path.take k).reverse lf).reverse
theorem QhA (ws:List Tn) (path:List (List (BitVec 8))) (lf:List (BitVec 8)):Qat ws path 0 lf=[lf]:=by
  unfold Qat
  rw [Nat.sub_zero,List.drop_length,Qe7]
  rfl
theorem Qhz (ws:List Tn) (path:List (List (BitVec 8))) (k:Nat) (lf:List (BitVec 8)) (t:Tn) (d:List (BitVec 8)) (ht:ws[ws.length-1-k]?=some t) (hk:k<ws.length) (hd:path[k]?=some d) :
    Qat ws path (k+1) lf=Qat ws path k lf ++ [if t.right=true then Yz d (upK ws path k (sha lf)) else Yz (upK ws path k (sha lf)) d]:=by
  obtain ⟨h1,rfl⟩:=List.getElem?_eq_some_iff.1 ht
  obtain ⟨h2,rfl⟩:=List.getElem?_eq_some_iff.1 hd
  unfold Qat upK
  rw [show ws.length-(k+1)=ws.length-1-k by omega,List.drop_eq_getElem_cons h1,show ws.length-1-k+1=ws.length-k by omega,List.take_succ_eq_append_getElem h2,List.reverse_append,List.reverse_singleton,List.singleton_append,QcW,List.reverse_cons]
theorem Qit (ws:List Tn) (path:List (List (BitVec 8))) (lf:List (BitVec 8)) (h:path.length=ws.length):Qat ws path ws.length lf=(QcW ws path.reverse lf).reverse:=by
  unfold Qat
  rw [Nat.sub_self,List.drop_zero,List.take_of_length_le (by omega)]
def QbQ (p:Prf):List Tn:=JW p.index.toNat p.size.toNat 0
def QhB (p:Prf):List (List (BitVec 8)):=QeD p.size.toNat (upD (QbQ p) p.path.reverse (QY p.key p.val)) :: QcW (QbQ p) p.path.reverse (Zu p.key p.val)
theorem Qe8 (p:Prf) (h:p.path.length=(QbQ p).length):(QhB p).length=p.path.length+2:=by
  unfold QhB
  rw [List.length_cons,YY _ _ _ (by rw [List.length_reverse];exact h),h]
theorem Qi0 (n:Nat) (t:List (BitVec 8)):(QeD n t).length=5+t.length:=by unfold QeD;simp [QJ];omega
theorem Qd2 (k v:List (BitVec 8)):(Yz k v).length=1+(k.length+v.length):=by unfold Yz;simp;omega
theorem Qe9 (x:Nat) (w:World) (h:x<256):Calls Tryz.prog 170 #[.int .u64 (x:Int)] w fun e w'=>e=.returned (.int .i64 (Lib.bitLen x:Int))∧w'=w:=by
  have e1:decide ((4294967296:Int)≤(x:Int))=false:=by simp;omega
  have e2:decide ((65536:Int)≤(x:Int))=false:=by simp;omega
  have e3:decide ((256:Int)≤(x:Int))=false:=by simp;omega
  go_enter Tryz.func170,Tryz.ntmps170
  go_wp2
  all_goals (go_ret;refine ⟨congrArg Ending.returned (congrArg (Value.int IntKind.i64) ?_),rfl⟩)
  have hl:=Lib.bitLen_le8 ⟨x,h⟩
  have he:=Lib.len8_eq ⟨x,h⟩
  unfold Lib.len8 at he
  simp only [Int.toNat_natCast] at he
  have hs:x<Lib.len8tab.size:=by rw [show Lib.len8tab.size=256 from by kernel_rfl];exact h
  rw [getElem?_pos Lib.len8tab x hs] at he
  simp only at hl he
  have he2:((Lib.len8tab[x]'hs).toNat:Int)=(Lib.bitLen x:Int):=he
  rw [he2]
  unfold wrap64
  omega
theorem Qhs:∀ n:Fin 257,2≤n.val→1≤Lib.bitLen (n.val-1)∧Lib.bitLen (n.val-1)≤8∧Qx n.val=2 ^ (Lib.bitLen (n.val-1)-1):=by decide +kernel
theorem QhE (x:Nat) (w:World) (h:x<256):Calls Tryz.prog 165 #[.int .u64 (x:Int)] w fun e w'=>e=.returned (.int .i64 (Lib.bitLen x:Int))∧w'=w:=by
  have HL:=hid (Qe9 x w h)
  go_enter Tryz.func165,Tryz.ntmps165
  go_wp2_with fail
  refine HL.out.mono ?_
  rintro e w' ⟨rfl,hw⟩
  obtain rfl:=hw.symm
  go_wp2
  go_ret
  exact ⟨rfl,rfl⟩
theorem QhW (n:Nat) (w:World) (h2:2≤n) (hn:n≤256):Calls Tryz.prog 152 #[.int .i64 (n:Int)] w fun e w'=>e=.returned (.int .i64 (Qx n:Int))∧w'=w:=by
  obtain ⟨h1,h8,hh⟩:=Qhs ⟨n,by omega⟩ h2
  simp only at h1 h8 hh
  obtain ⟨x,hx⟩:∃ x,n-1=x:=⟨_,rfl⟩
  rw [hx] at h1 h8 hh
  obtain ⟨b,hb⟩:∃ b,Lib.bitLen x=b:=⟨_,rfl⟩
  have HL:=hid (QhE x w (by omega))
  rw [hb] at h1 h8 hh HL
  have HH:=hid hh
  have e1:(n:Int)-1=(x:Int):=by omega
  have e2:decide ((n:Int)<2)=false:=by simp;omega
  clear hh hb hx
  go_enter Tryz.func152,Tryz.ntmps152
  go_wp2_with fail
  refine HL.out.mono ?_
  rintro e w' ⟨rfl,hw⟩
  obtain rfl:=hw.symm
  have hcases:b=1∨b=2∨b=3∨b=4∨b=5∨b=6∨b=7∨b=8:=by omega
  rcases hcases with rfl | rfl | rfl | rfl | rfl | rfl | rfl | rfl <;>
    (go_wp2
     go_ret
     exact ⟨by rw [HH.out];rfl,rfl⟩)
theorem QaK (ls:List (List (BitVec 8))) (sv:Value) (N:Nat) (w:World) (hN:N≤w.heap.size) (hb:Q8 w N sv ls) (hlen:ls.flatten.length≤1000000) (hn:ls.length≤1000000) :
    Calls Tryz.prog 121 #[sv] w fun e w'=>∃ v,e=.returned v∧Qq w' w.heap.size v ls.flatten∧Below w.heap.size w w':=by
  obtain ⟨oa,ca,rfl,hca⟩:=hb.shape
  have HB:=hid hb
  clear hb
  generalize hnn:ls.length=n at *
  have HN:=hid hnn
  clear hnn
  go_enter Tryz.func121,Tryz.ntmps121
  go_wp2_with fail
  go_loopw [3,8] (fun y i wr=>∃ k:Nat,k≤n∧i=.int .i64 (k:Int)∧Hid (Qq wr w.heap.size y (ls.take k).flatten∧Below w.heap.size w wr)) (fun _ i _=>n-(intOf i).toNat)
  case atStart=>exact ⟨0,by omega,rfl,Qq.nil _ _,Below.refl _ _⟩
  case round =>
    obtain ⟨k,hk,rfl,HR⟩:=hrel
    by_cases hlt:k<n
    · have h1:Q8 w N (.slice oa ls.length ca) ls:=by rw [HN.out];exact HB.out
      obtain ⟨b,o,rfl,hc⟩:=h1.some (by rw [HN.out];omega)
      obtain ⟨hbN,x,hx,hbx⟩:=hc k (by rw [HN.out];exact hlt)
      obtain ⟨o1,c1,rfl,hc1⟩:=hbx.shape
      have f0:=(HR.out.2.cell (p:=⟨b,o+k,none⟩) (show b<w.heap.size by omega)).trans hx
      have HT:=hid (Yx ls k (by rw [HN.out];exact hlt))
      have HL:=hid (show (ls.take k).flatten.length+(ls.getD k []).length≤140737488355328 by
        have h2:=Y3 ls (k+1)
        rw [HT.out,List.length_append] at h2
        omega)
      have HBX:=hid (hbx.below (HR.out.2.mono hN))
      have HSZ:=hid (show w.heap.size≤wr.heap.size from HR.out.2.size)
      have hlt':(k:Int)<(n:Int):=by omega
      clear h1 hc hx hbx
      go_wp2_with (at_builtin;refine Q5 rfl (.tmp 12) (.tmp 13) rfl w.heap.size _ (ls.take k).flatten rfl HR.out.1 _ (ls.getD k []) rfl HBX.out HL.out HSZ.out ?_;intro v' w1 hown1 hbe1 hke1)
      go_roundw
      case rel=>exact ⟨k+1,by omega,by go_num,by rw [HT.out];exact hown1,HR.out.2.trans hbe1⟩
      case measure=>simp [intOf];omega
    · have hge:decide ((k:Int)<(n:Int))=false:=by simp;omega
      have HT:=hid (show (ls.take k).flatten=ls.flatten by rw [List.take_of_length_le (by rw [HN.out];omega)])
      go_wp2
      go_ret
      exact ⟨_,rfl,by rw [← HT.out];exact HR.out.1,HR.out.2⟩
theorem Qcw (m:Nat) (h:m<256):V (BitVec.ofNat 8 m)=.int .u8 (m:Int):=by
  unfold V b8
  simp
  omega
theorem QcV (n:Nat):(QJ n).map V=[.int .u8 ((n:Int) / 16777216 % 256),.int .u8 ((n:Int) / 65536 % 256),.int .u8 ((n:Int) / 256 % 256),.int .u8 ((n:Int) % 256)]:=by
  unfold QJ
  simp only [List.map_cons,List.map_nil]
  rw [Qcw _ (by omega),Qcw _ (by omega),Qcw _ (by omega),Qcw _ (by omega)]
  simp
theorem Qfm (n:Nat) (w:World) (hn:n<1000000):Calls Tryz.prog 122 #[.int .i64 (n:Int)] w fun e w' =>
    e=.returned (.slice (some ⟨w.heap.size,0,none⟩) 4 4)∧w'=w.alloc (.cells ((QJ n).map V).toArray 5):=by
  go_enter Tryz.func122,Tryz.ntmps122
  go_wp2
  go_ret
  refine ⟨rfl,?_⟩
  rw [QcV]
end Go.Proofs.YtbgdpfeobklnhaaGreatDoor
