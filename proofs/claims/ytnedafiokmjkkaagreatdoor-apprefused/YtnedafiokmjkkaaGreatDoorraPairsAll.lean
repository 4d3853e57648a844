/- Pairs behind a slice value. -/
import Derived.Test.YtnedafiokmjkkaaGreatDoorraWireBoth
import Derived.Lib.Walk
import Derived.Lib.BitFns
import Derived.BigQuiet
namespace Go.Proofs.YtnedafiokmjkkaaGreatDoor
open Tryz
variable {N g i k n:Nat} {w w' w1:World} {sv v v4:Value} {ls:List (List (BitVec 8))} {cs xs:List Value} {t t':TypeId} {l:List (BitVec 8)} {o:Oper} {a:Act} {K:Act→World→Prop} {Q:Exit→Act→World→Prop} {oa:Option Addr}
set_option maxRecDepth 1000000
set_option maxHeartbeats 8000000
def Qau:Bg→Bg→Bool
  | [],[]=>false
  | [],_ :: _=>true
  | _ :: _,[]=>false
  | x :: a,y :: b=>if x=y then Qau a b else decide (x.toNat<y.toNat)
structure Pr where
  key:Bg
  val:Bg
structure Dg where
  key:Bg
  val:Bg
  gone:Bool
def QuH (k:Bg):List Pr→List Pr
  | []=>[]
  | p :: r=>if Qau p.key k=true then p :: QuH k r else []
def Y9 (k:Bg):List Pr→List Pr
  | []=>[]
  | p :: r=>if Qau p.key k=true then Y9 k r else p :: r
def back (x:List Pr):List Dg:=(x.map fun p=>(⟨p.key,p.val,false⟩:Dg)).reverse
def JU (n:Nat):Bg:=[BitVec.ofNat 8 (n / 16777216 % 256),BitVec.ofNat 8 (n / 65536 % 256),BitVec.ofNat 8 (n / 256 % 256),BitVec.ofNat 8 (n % 256)]
def ZN (k v:Bg):Bg:=sha (0 :: (JU k.length ++ (k ++ v)))
def QoO (a b:Bg):Bg:=sha (1 :: (a ++ b))
def Qvh (n:Nat) (t:Bg):Bg:=sha (2 :: (JU n ++ t))
def QeP:Nat→Nat→Nat→Nat
  | 0,k,_=>k
  | f+1,k,n=>if n≤2*k∨k=0 then k else QeP f (2*k) n
def QfA (k n:Nat):Nat:=QeP (n-k) k n
theorem QaW (f:Nat) (h:n≤2*k∨k=0):QeP f k n=k:=by cases f <;> grind [QeP]
theorem QpI: ∀ (f f' k n:Nat),n-k≤f→n-k≤f'→QeP f k n=QeP f' k n:=by
  intro f
  induction f with
  | zero=>intro f' k n h _;rw [QaW 0 (by omega),QaW f' (by omega)]
  | succ f ih =>
    intro f' k n h h'
    by_cases hs:n≤2*k∨k=0
    · rw [QaW _ hs,QaW _ hs]
    · cases f' with
      | zero=>omega
      | succ f'=>rw [QeP,QeP,if_neg hs,if_neg hs,ih f' (2*k) n (by omega) (by omega)]
theorem QpJ (k n:Nat):QfA k n=if n≤2*k∨k=0 then k else QfA (2*k) n:=by
  unfold QfA
  split
  · rename_i h
    exact QaW _ h
  · rename_i h
    obtain ⟨m,hm⟩:∃ m,n-k=m+1:=⟨n-k-1,by omega⟩
    rw [hm,QeP,if_neg h];exact QpI _ _ _ _ (by omega) (by omega)
def QJ (n:Nat):Nat:=QfA 1 n
theorem QpK (k n:Nat) (hk:0<k) (h:k<n):0<QfA k n∧QfA k n<n:=by
  induction hd:n-k using Nat.strongRecOn generalizing k with
  | _ d ih =>
    rw [QpJ]
    split
    · omega
    · grind
theorem QcY (n:Nat) (h:2≤n):0<QJ n∧QJ n<n:=by grind [QJ,QpK]
def At (k:Bg) (l:List Pr) (i:Nat) (fd:Bool):Prop :=
  i≤l.length∧(∀ j p,j<i→l[j]?=some p→Qau p.key k=true)∧(∀ j p,i≤j→l[j]?=some p→Qau p.key k=false)∧(fd=true↔∃ p,l[i]?=some p∧p.key=k)
structure Tn where
  right:Bool
  frm:Nat
  n:Nat
def Qfm:Nat→Nat→Nat→Nat→List Tn
  | 0,_,_,_=>[]
  | f+1,i,n,a=>if 1<n then (if i<QJ n then ⟨false,a+QJ n,n-QJ n⟩ :: Qfm f i (QJ n) a else ⟨true,a,QJ n⟩ :: Qfm f (i-QJ n) (n-QJ n) (a+QJ n)) else []
def QaJ (i n a:Nat):List Tn:=Qfm n i n a
theorem Qfn:∀ (f f' i n a:Nat),n≤f→n≤f'→Qfm f i n a=Qfm f' i n a
  | 0,0,_,_,_,_,_=>rfl
  | 0,f'+1,i,n,a,h,_=>by
    rw [Qfm,Qfm,if_neg (by omega)]
  | f+1,0,i,n,a,_,h=>by
    rw [Qfm,Qfm,if_neg (by omega)]
  | f+1,f'+1,i,n,a,h,h'=>by
    rw [Qfm,Qfm]
    by_cases hn:1<n
    · have hh:=QcY n hn
      rw [if_pos hn,if_pos hn,Qfn f f' i (QJ n) a (by omega) (by omega),Qfn f f' (i-QJ n) (n-QJ n) (a+QJ n) (by omega) (by omega)]
    · grind
theorem QmJ (i n a:Nat) (h:¬ 1<n):QaJ i n a=[]:=by
  unfold QaJ
  match n,h with
  | 0,_=>rfl
  | 1,_=>rw [Qfm,if_neg (by omega)]
  | n+2,h=>omega
theorem QjY (i n a:Nat) (h:1<n) (hi:i<QJ n):QaJ i n a=⟨false,a+QJ n,n-QJ n⟩ :: QaJ i (QJ n) a:=by
  have hh:=QcY n h;unfold QaJ;obtain ⟨m,rfl⟩:∃ m,n=m+1:=⟨n-1,by omega⟩
  rw [Qfm,if_pos h,if_pos hi,Qfn m (QJ (m+1)) i (QJ (m+1)) a (by omega) (by omega)]
theorem Qij (i n a:Nat) (h:1<n) (hi:¬ i<QJ n):QaJ i n a=⟨true,a,QJ n⟩ :: QaJ (i-QJ n) (n-QJ n) (a+QJ n):=by
  have hh:=QcY n h;unfold QaJ;obtain ⟨m,rfl⟩:∃ m,n=m+1:=⟨n-1,by omega⟩
  rw [Qfm,if_pos h,if_neg hi,Qfn m (m+1-QJ (m+1)) (i-QJ (m+1)) (m+1-QJ (m+1)) (a+QJ (m+1)) (by omega) (by omega)]
def upD:List Tn→List Bg→Bg→Bg
  | t :: ts,d :: ds,x=>if t.right=true then QoO d (upD ts ds x) else QoO (upD ts ds x) d
  | _,_,x=>x
theorem QoZ (ts:List Tn) (ds:List Bg) (x:Bg) (hx:x.length=32):(upD ts ds x).length=32:=by
  match ts,ds with
  | [],_=>rw [upD];exact hx;simp
  | _ :: _,[]=>rw [upD];exact hx;simp
  | t :: ts,d :: ds =>
    rw [upD]
    split
    · exact QQ _
    · exact QQ _
structure Prf where
  index:Int
  size:Int
  key:Bg
  val:Bg
  path:List Bg
def Prf.none:Prf:=⟨0,0,[],[],[]⟩
def JX (r:Bg) (p:Prf):Prop :=
  1≤p.size∧p.size≤200∧0≤p.index∧p.index<p.size∧p.key.length≤60∧p.val.length≤200∧p.path.length=(QaJ p.index.toNat p.size.toNat 0).length∧(∀ d∈p.path,d.length=32) ∧
  Qvh p.size.toNat (upD (QaJ p.index.toNat p.size.toNat 0) p.path.reverse (ZN p.key p.val))=r
structure Gp where
  hasL:Bool
  hasR:Bool
  left:Prf
  right:Prf
def Gp.none:Gp:=⟨false,false,Prf.none,Prf.none⟩
def QaA (r:Bg) (k:Bg) (g:Gp):Prop :=
  if g.hasL=false∧g.hasR=false then r=Qvh 0 [] else
  (g.hasL=true→JX r g.left∧Qau g.left.key k=true)∧(g.hasR=true→JX r g.right∧Qau k g.right.key=true) ∧
  (g.hasL=true→g.hasR=true→g.right.size=g.left.size∧g.left.index+1=g.right.index)∧(g.hasL=true→g.hasR=false→g.left.index+1=g.left.size)∧(g.hasL=false→g.hasR=true→g.right.index=0)
open Go.RowKit
def Yj (P:Prop) (e:Ending):Prop:=∃ bb,e=.returned (.bool bb)∧(bb=true↔P)
theorem Yj.yes {P:Prop} (h:P):Yj P (.returned (.bool true)):=by grind [Yj]
theorem Yj.no {P:Prop} (h:¬ P):Yj P (.returned (.bool false)):=by grind [Yj]
theorem Jx.mono (h:Jx w N sv ls) (hN:N≤g):Jx w g sv ls:=by
  rcases h with h | h | ⟨b,off,cap,h1,h2,h3⟩
  · exact .inl h
  · exact .inr (.inl h)
  · refine .inr (.inr ⟨b,off,cap,h1,h2,fun i hi=>?_⟩)
    obtain ⟨hb,x,hx,d⟩:=h3 i hi;exact ⟨Br hb hN,x,hx,d.mono hN⟩
def Qd3 (w:World) (N:Nat) (v:Value) (p:Prf):Prop:=∃ kv vv pv,v=.agg #[Bb p.index,Bb p.size,kv,vv,pv]∧Bytes w N kv p.key∧Bytes w N vv p.val∧Jx w N pv p.path
theorem Qd3.below {p:Prf} (h:Qd3 w N v p) (hg:Below N w w'):Qd3 w' N v p:=by
  obtain ⟨kv,vv,pv,rfl,h1,h2,h3⟩:=h;exact ⟨kv,vv,pv,rfl,h1.below hg,h2.below hg,h3.below hg⟩
theorem Qd3.mono {p:Prf} (h:Qd3 w N v p) (hN:N≤g):Qd3 w g v p:=by
  obtain ⟨kv,vv,pv,rfl,h1,h2,h3⟩:=h;exact ⟨kv,vv,pv,rfl,h1.mono hN,h2.mono hN,h3.mono hN⟩
def Prf.fits (p:Prf):Prop:=p.key.length≤140737488351232∧p.val.length≤140737488351232∧p.path.length<2305843009213693952∧∀ d∈p.path,d.length≤140737488351232
def GpV (w:World) (N:Nat) (v:Value) (g:Gp):Prop:=∃ k1 v1 p1 k2 v2 p2,v=.agg #[.bool g.hasL,.bool g.hasR,Bb g.left.index,Bb g.left.size,k1,v1,p1,Bb g.right.index,Bb g.right.size,k2,v2,p2] ∧
  Bytes w N k1 g.left.key∧Bytes w N v1 g.left.val∧Jx w N p1 g.left.path∧Bytes w N k2 g.right.key∧Bytes w N v2 g.right.val∧Jx w N p2 g.right.path
theorem GpV.below {g:Gp} (h:GpV w N v g) (hg:Below N w w'):GpV w' N v g:=by
  obtain ⟨k1,v1,p1,k2,v2,p2,rfl,h1,h2,h3,h4,h5,h6⟩:=h;exact ⟨k1,v1,p1,k2,v2,p2,rfl,h1.below hg,h2.below hg,h3.below hg,h4.below hg,h5.below hg,h6.below hg⟩
theorem GpV.mono {g:Gp} (h:GpV w N v g) (hN:N≤n):GpV w n v g:=by
  obtain ⟨k1,v1,p1,k2,v2,p2,rfl,h1,h2,h3,h4,h5,h6⟩:=h;exact ⟨k1,v1,p1,k2,v2,p2,rfl,h1.mono hN,h2.mono hN,h3.mono hN,h4.mono hN,h5.mono hN,h6.mono hN⟩
def Gp.fits (g:Gp):Prop:=g.left.fits∧g.right.fits
def upK (ws:List Tn) (path:List Bg) (k:Nat) (x:Bg):Bg:=upD (ws.drop (ws.length-k)) (path.take k).reverse x
theorem Qtj (ws:List Tn) (path:List Bg) (x:Bg):upK ws path 0 x=x:=by grind [upK,upD]
theorem Qti (ws:List Tn) (path:List Bg) (k:Nat) (x:Bg) (t:Tn) (d:Bg) (ht:ws[ws.length-1-k]?=some t) (hk:k<ws.length) (hd:path[k]?=some d) :
    upK ws path (k+1) x=if t.right=true then QoO d (upK ws path k x) else QoO (upK ws path k x) d:=by
  obtain ⟨h1,rfl⟩:=Bm.1 ht;obtain ⟨h2,rfl⟩:=Bm.1 hd;unfold upK;rw [show ws.length-(k+1)=ws.length-1-k by omega,Cs h1,show ws.length-1-k+1=ws.length-k by omega,Cx h2,List.reverse_append,Eq,Er,upD]
theorem QuB (ws:List Tn) (path:List Bg) (x:Bg) (h:path.length=ws.length):upK ws path ws.length x=upD ws path.reverse x:=by grind [upK]
theorem Qo1 (ws:List Tn) (path:List Bg) (k:Nat) (x:Bg) (hx:x.length=32):(upK ws path k x).length=32:=QoZ _ _ _ hx
def QaZ (k v:Bg):Bg:=0 :: (JU k.length ++ (k ++ v))
def ZE (a b:Bg):Bg:=1 :: (a ++ b)
def QkV (n:Nat) (t:Bg):Bg:=2 :: (JU n ++ t)
def QhC:List Tn→List Bg→Bg→List Bg
  | t :: ts,d :: ds,lf=>(if t.right=true then ZE d (upD ts ds (sha lf)) else ZE (upD ts ds (sha lf)) d) :: QhC ts ds lf
  | _,_,lf=>[lf]
theorem QlQ (ds:List Bg) (lf:Bg):QhC [] ds lf=[lf]:=by rw [QhC];simp
theorem Qaj: ∀ (ts:List Tn) (ds:List Bg) (lf:Bg),ds.length=ts.length→(QhC ts ds lf).length=ts.length+1
  | [],ds,lf,_=>by rw [QlQ];rfl
  | t :: ts,[],lf,h=>by simp at h
  | t :: ts,d :: ds,lf,h=>by
    rw [QhC,Cy,Qaj ts ds lf (by simpa using h)]
    rfl
def QcF (ws:List Tn) (path:List Bg) (k:Nat) (lf:Bg):List Bg:=(QhC (ws.drop (ws.length-k)) (path.take k).reverse lf).reverse
theorem QpV (ws:List Tn) (path:List Bg) (lf:Bg):QcF ws path 0 lf=[lf]:=by grind [QcF,QlQ]
theorem QpU (ws:List Tn) (path:List Bg) (k:Nat) (lf:Bg) (t:Tn) (d:Bg) (ht:ws[ws.length-1-k]?=some t) (hk:k<ws.length) (hd:path[k]?=some d) :
    QcF ws path (k+1) lf=QcF ws path k lf ++ [if t.right=true then ZE d (upK ws path k (sha lf)) else ZE (upK ws path k (sha lf)) d]:=by
  obtain ⟨h1,rfl⟩:=Bm.1 ht;obtain ⟨h2,rfl⟩:=Bm.1 hd;unfold QcF upK;rw [show ws.length-(k+1)=ws.length-1-k by omega,Cs h1,show ws.length-1-k+1=ws.length-k by omega,Cx h2,List.reverse_append,Eq,Er,QhC,List.reverse_cons]
theorem QrZ (ws:List Tn) (path:List Bg) (lf:Bg) (h:path.length=ws.length):QcF ws path ws.length lf=(QhC ws path.reverse lf).reverse:=by grind [QcF]
def Qfo (p:Prf):List Tn:=QaJ p.index.toNat p.size.toNat 0
def QpW (p:Prf):List Bg:=QkV p.size.toNat (upD (Qfo p) p.path.reverse (ZN p.key p.val)) :: QhC (Qfo p) p.path.reverse (QaZ p.key p.val)
theorem QlR (p:Prf) (h:p.path.length=(Qfo p).length):(QpW p).length=p.path.length+2:=by grind [QpW,Qaj]
theorem Qta (n:Nat) (t:Bg):(QkV n t).length=5+t.length:=by grind [QkV,JU]
theorem QjC (k v:Bg):(ZE k v).length=1+(k.length+v.length):=by grind [ZE]
theorem QlT (x:Nat) (w:World) (h:x<256):Calls prog 271 #[.int .u64 (x:Int)] w fun e w'=>e=.returned (Bb (Lib.bitLen x:Int))∧w'=w:=by
  have e1:decide ((4294967296:Int)≤(x:Int))=false:=by grind
  have e2:decide ((65536:Int)≤(x:Int))=false:=by grind
  go_in
  go_wp2
  all_goals (go_ret;refine ⟨Bl Ending.returned (Bl (Value.int IntKind.i64) ?_),rfl⟩)
  have hl:=Lib.bitLen_le8 ⟨x,h⟩;have he:=Lib.len8_eq ⟨x,h⟩;unfold Lib.len8 at he;simp only [Eh] at he;have hs:x<Lib.len8tab.size:=by omega
  rw [getElem?_pos Lib.len8tab x hs] at he;simp only at hl he;have he2:((Lib.len8tab[x]'hs).toNat:Int)=(Lib.bitLen x:Int):=he;unfold RowKit.wrap64;omega
theorem QpL: ∀ n:Fin 257,2≤n.val→1≤Lib.bitLen (n.val-1)∧Lib.bitLen (n.val-1)≤8∧QJ n.val=2 ^ (Lib.bitLen (n.val-1)-1):=by decide +kernel
theorem Qp3 (x:Nat) (w:World) (h:x<256):Calls prog 281 #[.int .u64 (x:Int)] w fun e w'=>e=.returned (Bb (Lib.bitLen x:Int))∧w'=w:=by
  have HL:=hid (QlT x w h)
  go_in
  go_wp2_with fail
  refine HL.out.mono ?_;rintro e w' ⟨rfl,hw⟩;go_wp2;go_ret;exact ⟨rfl,rfl⟩
theorem QqI (n:Nat) (w:World) (h2:2≤n) (hn:n≤256):Calls prog 268 #[Bb (n:Int)] w fun e w'=>e=.returned (Bb (QJ n:Int))∧w'=w:=by
  obtain ⟨h1,h8,hh⟩:=QpL ⟨n,by omega⟩ h2
  obtain ⟨x,hx⟩:∃ x,n-1=x:=⟨_,rfl⟩;rw [hx] at h1 h8 hh;obtain ⟨b,hb⟩:∃ b,Lib.bitLen x=b:=⟨_,rfl⟩;have HL:=hid (Qp3 x w (by omega))
  rw [hb] at h1 h8 hh HL;have HH:=hid hh;have e1:(n:Int)-1=(x:Int):=by omega
  go_in
  go_wp2_with fail
  refine HL.out.mono ?_;rintro e w' ⟨rfl,hw⟩;have d:b=1∨b=2∨b=3∨b=4∨b=5∨b=6∨b=7∨b=8:=by omega
  rcases d with rfl | rfl | rfl | rfl | rfl | rfl | rfl | rfl <;>
    (go_wp2
     go_ret
     exact ⟨by rw [HH.out];rfl,rfl⟩)
theorem Qtw (m:Nat) (h:m<256):V (BitVec.ofNat 8 m)=.int .u8 (m:Int):=by
  unfold V b8;simp;omega
theorem Qnl (n:Nat):(JU n).map V=[.int .u8 ((n:Int) / 16777216 % 256),.int .u8 ((n:Int) / 65536 % 256),.int .u8 ((n:Int) / 256 % 256),.int .u8 ((n:Int) % 256)]:=by grind [JU,Qtw]
def Pr.fits (p:Pr):Prop:=p.key.length≤140737488351232∧p.val.length≤140737488351232
theorem Qc6 {base e size:Nat} (h:w.ownsRow base e size v n xs) (hg:Bd w w'):w'.ownsRow base e size v n xs:=by
  obtain ⟨h1,h2⟩:=h;refine ⟨h1,?_⟩
  rcases h2 with h2 | ⟨g,cap,cur,h3,h4,h5,h6⟩
  · exact .inl h2
  · exact .inr ⟨g,cap,cur,h3,h4,(hg.block g (BN.1 h5).1).trans h5,h6⟩
def Dg.fits (d:Dg):Prop:=d.key.length≤140737488351232∧d.val.length≤140737488351232
theorem Qdh (n:Nat):∀ i a,(QaJ i n a).length≤n:=by
  induction n using Nat.strongRecOn with
  | _ n ih =>
    intro i a
    by_cases h1:1<n
    · have hh:=QcY n h1
      by_cases b:i<QJ n
      · rw [QjY i n a h1 b,Cy]
        have:=ih (QJ n) (by omega) i a
        omega
      · rw [Qij i n a h1 b,Cy]
        have:=ih (n-QJ n) (by omega) (i-QJ n) (a+QJ n)
        omega
    · rw [QmJ i n a h1]
      exact BH _
def YI (t:TypeId) (w w':World):Prop:=∀ (k:Nat) (cs:Array Value) (t':TypeId) (fr:Nat×Nat),w.heap[k]?=some (.cells cs t' fr)→t'≠t→w'.heap[k]?=w.heap[k]?
theorem YI.refl (t:TypeId) (w:World):YI t w w:=fun _ _ _ _ _ _=>rfl
theorem YI.trans {w2:World} (h:YI t w w1) (k:YI t w1 w2):YI t w w2:=fun i cs t' fr hi ht=>by
  have h1:=h i cs t' fr hi ht;exact (k i cs t' fr (h1.trans hi) ht).trans h1
theorem YI.row (h:YI t w w') (hr:Row w g t' cs) (ht:t'≠t):Row w' g t' cs:=by
  unfold Row at hr ⊢;rw [h g _ _ _ hr ht];exact hr
theorem YI.owns (h:YI t w w') {base e:Nat} (ho:w.ownsRow base e 1 v n xs) (ht:e≠t):w'.ownsRow base e 1 v n xs:=by
  obtain ⟨h1,h2⟩:=ho;refine ⟨h1,?_⟩
  rcases h2 with h2 | ⟨g,cap,cur,h3,h4,h5,h6⟩
  · exact .inl h2
  · exact .inr ⟨g,cap,cur,h3,h4,(h g _ _ _ h5 ht).trans h5,h6⟩
theorem QpR (hr:Row w g t cs) (i:Nat) (x:Value):YI t w (w.setCell ⟨g,i,none⟩ x):=fun k cs' t' fr hk ht=>by
  refine DM w ⟨g,i,none⟩ x k ?_;rintro rfl;unfold Row at hr;rw [hr] at hk;simp at hk;exact ht hk.2.1.symm
theorem Qbn {base t:Nat} (ho:w.ownsRow base t 1 v n xs) (hg:w.grownBy w' v.ownBlock):YI t w w':=fun k cs t' fr hk ht=>by
  refine hg.block k (BN.1 hk).1 ?_;intro he
  rcases ho.2 with ⟨rfl,_⟩ | ⟨g,c,cur,rfl,_,h5,_⟩
  · simp [Value.ownBlock] at he
  · obtain rfl:k=g:=by simpa [Value.ownBlock] using he
    rw [h5] at hk;simp at hk;exact ht hk.2.1.symm
structure LV where
  v:Value
  l:Bg
def Z9 (w:World) (base:Nat) (v:Value) (ls:List Bg):Prop :=
  ∃ ys:List LV,ys.map (·.l)=ls∧w.ownsRow base 29 1 v ys.length (ys.map (·.v))∧∀ y∈ys,Qq w base y.v y.l
theorem Z9.nil (w:World) (base:Nat):Z9 w base (Bc) []:=⟨[],rfl,Db w base 29 1,fun y hy=>by cases hy⟩
theorem Z9.below {base:Nat} (h:Z9 w base v ls) (hg:Bd w w'):Z9 w' base v ls:=by
  obtain ⟨ys,h1,h2,h3⟩:=h;exact ⟨ys,h1,Qc6 h2 hg,fun y hy=>(h3 y hy).below hg⟩
theorem Z9.keep {base:Nat} (h:Z9 w base v ls) (hg:YI t w w') (ht:29≠t) (b:5≠t):Z9 w' base v ls:=by
  obtain ⟨ys,h1,h2,h3⟩:=h;exact ⟨ys,h1,hg.owns h2 ht,fun y hy=>hg.owns (h3 y hy) b⟩
theorem Z9.mono {base base':Nat} (h:Z9 w base v ls) (hb:base'≤base):Z9 w base' v ls:=by
  obtain ⟨ys,h1,⟨h2,b⟩,h3⟩:=h;refine ⟨ys,h1,⟨h2,?_⟩,fun y hy=>(h3 y hy).mono hb⟩
  rcases b with h | ⟨g,cap,cur,k1,k2,k3⟩
  · exact .inl h
  · exact .inr ⟨g,cap,cur,k1,Bh hb k2,k3⟩
theorem Z9.shape {base:Nat} (h:Z9 w base v ls):∃ oa b,v=.slice oa ls.length b∧ls.length≤b:=by
  obtain ⟨ys,rfl,⟨_,h2⟩,_⟩:=h
  rcases h2 with ⟨h3,h4⟩ | ⟨g,b,cur,h3,_,_,h4,_⟩
  · exact ⟨none,0,by rw [Bp,h4];exact h3,by rw [Bp];omega⟩
  · exact ⟨_,b,by rw [Bp];exact h3,by rw [Bp];exact h4⟩
theorem QlI: (prog.info? 29).map (fun i=>(i.zero,i.size,i.bytes))=some (some (Bc),1,24):=by kernel_rfl
theorem Qq.one {base:Nat} (h:Qq w base v l):v.oneCell'=true:=by
  obtain ⟨oa,cap,rfl,_⟩:=h.shape;rfl
theorem QmK (s x:Operand)
    (ho:o.op=.call { callee:=.builtin .append,args:=#[s,x],argTypes:=#[40,40] })
    (base:Nat) (v:Value) (ls:List Bg) (hs:a.eval s=v) (m:Z9 w base v ls) (g:Nat) (y:Value) (l:Bg) (hx:a.eval x=.slice (some ⟨g,0,none⟩) 1 1)
    (hr:Row w g 29 [y]) (hy:Qq w base y l) (hl:ls.length≤1000000) (b:base≤w.heap.size)
    (h:∀ v' w',Z9 w' base v' (ls ++ [l])→Below base w w'→YI 29 w w'→K (a.put o.dst v') w'):o.wp prog a w K Q:=by
  obtain ⟨i0,z,C,D,E⟩:=Ci QlI;obtain ⟨ys,rfl,d,A⟩:=m;rw [Bp] at hl;refine wp_append_own w s x 40 ho base 29 i0 (Bc) 1 24 underlying40 z C D E rfl (by decide) v ys.length (ys.map (·.v)) hs d ⟨g,0,none⟩ 1 1 [y] hx rfl ?_ ?_ (by unfold maxLen;omega) (by omega) b ?_
  · intro j u hj
    have e:(⟨g,0,none⟩:Addr).add j=⟨g,j,none⟩:=by unfold Addr.add;split <;> simp_all
    rw [e,hr.cell];exact hj
  · intro u hu
    obtain rfl:u=y:=by simpa using hu
    exact hy.one
  · intro v' w' h1 h2 _
    have hk:YI 29 w w':=Qbn d h2;refine h v' w' ⟨ys ++ [⟨y,l⟩],by simp,?_,fun q hq=>?_⟩ ((Bi base w).grown h2 b (fun k hk=>(C3 d k hk).1)) hk
    · rw [Bs,Cc]
      exact h1
    · rcases Bz.1 hq with hq | hq
      · exact hk.owns (A q hq) (by decide)
      · obtain rfl:q=⟨y,l⟩:=by simpa using hq
        exact hk.owns hy (by decide)
theorem Qas {e:Array Oper} {rest:List Oper} (j:o.guard=none) (s x:Operand)
    (ho:o.op=.call { callee:=.builtin .append,args:=#[s,x],argTypes:=#[40,40] })
    (base:Nat) (v:Value) (ls:List Bg) (hs:a.eval s=v) (d:Z9 w base v ls) (g:Nat) (y:Value) (l:Bg) (hx:a.eval x=.slice (some ⟨g,0,none⟩) 1 1)
    (hr:Row w g 29 [y]) (hy:Qq w base y l) (hl:ls.length≤1000000) (b:base≤w.heap.size)
    (h:∀ v' w',Z9 w' base v' (ls ++ [l])→Below base w w'→YI 29 w w'→wpList prog e Q rest (a.put o.dst v') w'):wpList prog e Q (o :: rest) a w :=
  CW j fun _ hK=>QmK s x ho base v ls hs d g y l hx hr hy hl b fun v' w' h1 h2 h3=>hK _ _ (h v' w' h1 h2 h3)
def Qaa (w:World) (base:Nat) (v:Value) (bs:List Bool):Prop:=w.ownsRow base 4 1 v bs.length (bs.map Value.bool)
theorem Qaa.nil (w:World) (base:Nat):Qaa w base (Bc) []:=Db w base 4 1
theorem Qaa.below {base:Nat} {bs:List Bool} (h:Qaa w base v bs) (hg:Bd w w'):Qaa w' base v bs:=Qc6 h hg
theorem Qaa.shape {base:Nat} {bs:List Bool} (h:Qaa w base v bs):∃ oa b,v=.slice oa bs.length b∧bs.length≤b:=by
  obtain ⟨_,h2⟩:=h
  rcases h2 with ⟨h3,h4⟩ | ⟨g,b,cur,h3,_,_,h4,_⟩
  · exact ⟨none,0,by rw [h4];exact h3,by omega⟩
  · exact ⟨_,b,h3,h4⟩
theorem Qaa.get {base:Nat} {d:Nat} {bs:List Bool} (h:Qaa w base (.slice oa n d) bs) (hn:0<n):∃ g,oa=some ⟨g,0,none⟩∧base≤g∧g<w.heap.size∧∀ (i:Nat) b,bs[i]?=some b→w.cell? ⟨g,i,none⟩=some (.bool b):=by
  obtain ⟨h1,h2⟩:=h
  rcases h2 with ⟨h0,h0'⟩ | ⟨g,cap',j,hv,hb,hg,hn',_,hc,hx⟩
  · simp at h0;omega
  · simp at hv
    refine ⟨g,hv.1,hb,(BN.1 hg).1,fun i b hb=>?_⟩
    have m:i<bs.length:=(Bm.1 hb).1;rw [CD w g _ j _ _ hg,← Dn];have e:=Bl (fun l:List Value=>l[i]?) hx
    simp only [BE,Dm] at e;rw [if_pos m] at e;rw [e,Bt,hb];rfl
theorem Qns: (prog.info? 4).map (fun i=>(i.zero,i.size,i.bytes))=some (some (.bool false),1,1):=by kernel_rfl
theorem QmL (s x:Operand)
    (ho:o.op=.call { callee:=.builtin .append,args:=#[s,x],argTypes:=#[282,282] })
    (base:Nat) (v:Value) (bs:List Bool) (hs:a.eval s=v) (e:Qaa w base v bs) (g:Nat) (b:Bool) (hx:a.eval x=.slice (some ⟨g,0,none⟩) 1 1)
    (hr:Row w g 4 [.bool b]) (hl:bs.length≤1000000) (d:base≤w.heap.size)
    (h:∀ v' w',Qaa w' base v' (bs ++ [b])→Below base w w'→YI 4 w w'→K (a.put o.dst v') w'):o.wp prog a w K Q:=by
  obtain ⟨i0,q,z,A,C⟩:=Ci Qns;refine wp_append_own w s x 282 ho base 4 i0 (.bool false) 1 1 underlying282 q z A C rfl (by decide) v bs.length (bs.map Value.bool) hs e ⟨g,0,none⟩ 1 1 [.bool b] hx rfl ?_ ?_ (by unfold maxLen;omega) (by omega) d ?_
  · intro j u hj
    have m:(⟨g,0,none⟩:Addr).add j=⟨g,j,none⟩:=by unfold Addr.add;split <;> simp_all
    rw [m,hr.cell];exact hj
  · intro u hu
    obtain rfl:u=.bool b:=by simpa using hu
    rfl
  · intro v' w' h1 h2 _
    refine h v' w' ?_ ((Bi base w).grown h2 d (fun k hk=>(C3 e k hk).1)) (Qbn e h2)
    unfold Qaa;rw [Bs,Cc];exact h1
theorem Qgv {j:Array Oper} {rest:List Oper} (m:o.guard=none) (s x:Operand)
    (ho:o.op=.call { callee:=.builtin .append,args:=#[s,x],argTypes:=#[282,282] })
    (base:Nat) (v:Value) (bs:List Bool) (hs:a.eval s=v) (e:Qaa w base v bs) (g:Nat) (b:Bool) (hx:a.eval x=.slice (some ⟨g,0,none⟩) 1 1)
    (hr:Row w g 4 [.bool b]) (hl:bs.length≤1000000) (d:base≤w.heap.size)
    (h:∀ v' w',Qaa w' base v' (bs ++ [b])→Below base w w'→YI 4 w w'→wpList prog j Q rest (a.put o.dst v') w'):wpList prog j Q (o :: rest) a w :=
  CW m fun _ hK=>QmL s x ho base v bs hs e g b hx hr hl d fun v' w' h1 h2 h3=>hK _ _ (h v' w' h1 h2 h3)
def Rv (cs c:List Value) (n i:Nat):Prop:=c.length=cs.length∧∀ t,t<n→c[t]?=if t<i∨n<t+1+i then cs[n-1-t]? else cs[t]?
theorem Rv.start (cs:List Value) (n:Nat):Rv cs cs n 0:=⟨rfl,fun t ht=>by rw [if_neg (by omega)]⟩
theorem Rv.step {c:List Value} {j:Nat} (h:Rv cs c n i) (hij:i+j+1=n) (hlt:i<j) (hn:n≤cs.length) (hi:c[i]?=some v) (hj:c[j]?=some v4):Rv cs ((c.set i v4).set j v) n (i+1):=by
  obtain ⟨h1,h2⟩:=h;have ei:=h2 i (by omega)
  have ej:=h2 j (by omega)
  rw [if_neg (by omega),hi] at ei
  rw [if_neg (by omega),hj] at ej
  refine ⟨by simp [h1],fun t ht=>?_⟩
  rw [Ef,Ef]
  by_cases e1:j=t
  · subst e1
    rw [if_pos rfl,if_pos (by simp;omega),if_pos (by omega),show n-1-j=i by omega]
    exact ei
  · rw [if_neg e1]
    by_cases e2:i=t
    · subst e2
      rw [if_pos rfl,if_pos (by omega),if_pos (by omega),show n-1-i=j by omega]
      exact ej
    · rw [if_neg e2,h2 t ht]
      by_cases e3:t<i∨n<t+1+i
      · rw [if_pos e3,if_pos (by omega)]
      · rw [if_neg e3,if_neg (by omega)]
theorem Rv.at {c:List Value} {t:Nat} (h:Rv cs c n i) (h1:i≤t) (h2:t+i<n):c[t]?=cs[t]?:=by
  rw [h.2 t (by omega),if_neg (by omega)]
theorem Rv.stop {c:List Value} (h:Rv cs c n i) (hi:n≤i+i+1) (hn:n≤cs.length):c.take n=(cs.take n).reverse:=by
  obtain ⟨h1,h2⟩:=h;refine CP fun t=>?_
  by_cases ht:t<n
  · have e0:(cs.take n).reverse[t]?=cs[n-1-t]?:=by
      rw [List.getElem?_reverse (by simp;omega),C2,DI hn,BE,if_pos (by omega)]
    rw [BE,if_pos ht,h2 t ht,e0]
    by_cases e:t<i∨n<t+1+i
    · rw [if_pos e]
    · rw [if_neg e,show n-1-t=t by omega]
  · rw [Dr (by simp;omega),Dr (by simp;omega)]
theorem Qqy (oa:Option Addr) (b:Nat) (w:World):Calls prog 227 #[.slice oa 0 b] w fun e w'=>e=.returned (.tuple #[])∧w'=w:=by
  go_in
  go_wp2_with fail
  go_loopw [2,3] (fun s2 s3 wr=>s2=Bb 0∧s3=Bb (-1)∧wr=w) (fun _ _ _=>0)
  case atStart=>exact ⟨rfl,rfl,rfl⟩
  case round =>
    obtain ⟨rfl,rfl,rfl⟩:=hrel;go_wp2
    go_end0
    exact ⟨rfl,rfl⟩
theorem QsL (n g E:Nat) (cs:List Value) (w:World) (hn:1≤n) (hr:Row w g 29 cs) (C:n≤cs.length) (hb:n≤1000000) (q:∀ (t:Nat) x,t<n→cs[t]?=some x→∃ oa m k,x=.slice oa m k) :
    Calls prog 227 #[.slice (some ⟨g,0,none⟩) n E] w fun e w'=>e=.returned (.tuple #[])∧w.grownBy w' (some g)∧∃ c,Row w' g 29 c∧c.length=cs.length∧c.take n=(cs.take n).reverse:=by
  have D:=hid hr;clear hr
  go_in
  go_wp2_with fail
  go_loopw [2,3] (fun s2 s3 wr=>∃ i j:Nat,s2=Bb (i:Int)∧s3=Bb (j:Int)∧i+j+1=n∧i≤j+1∧Hid (w.grownBy wr (some g)∧∃ c,Row wr g 29 c∧Rv cs c n i)) (fun s2 _ _=>n-(intOf s2).toNat)
  case atStart=>exact ⟨0,n-1,rfl,by go_num,by omega,by omega,hid ⟨YQ _ _,cs,D.out,Rv.start _ _⟩⟩
  case round =>
    obtain ⟨i,j,rfl,rfl,G,hle,HI⟩:=hrel
    by_cases I:i<j
    · have hlt':(i:Int)<(j:Int):=by omega
      obtain ⟨hg,c,b,d⟩:=HI.out;have hcl2:=d.1;obtain ⟨xi,z⟩:∃ x,c[i]?=some x:=⟨c[i]'(by omega),Bk _⟩
      obtain ⟨xj,A⟩:∃ x,c[j]?=some x:=⟨c[j]'(by omega),Bk _⟩
      obtain ⟨oi,mi,ki,rfl⟩:=q i xi (by omega) ((d.at (Bj _) (by omega)).symm.trans z)
      obtain ⟨oj,mj,kj,rfl⟩:=q j xj (by omega) ((d.at (by omega) (by omega)).symm.trans A)
      have d0:=(b.cell i).trans z;have d1:=(b.cell j).trans A;have f0:=b.frozen i;have f1:=b.frozen j;have f2:=(b.set i (.slice oj mj kj)).frozen j;have hin:(i:Int)<(n:Int):=by omega
      have hjn:(j:Int)<(n:Int):=by omega
      have HN:=hid (show w.grownBy (((wr.setCell ⟨g,i,none⟩ (.slice oj mj kj)).setCell ⟨g,j,none⟩ (.slice oi mi ki)).drew) (some g)∧∃ c,Row (((wr.setCell ⟨g,i,none⟩ (.slice oj mj kj)).setCell ⟨g,j,none⟩ (.slice oi mi ki)).drew) g 29 c∧Rv cs c n (i+1) from
        ⟨ZV (Qo hg (Qo (YD _ _ _ _) (YD _ _ _ _))) ,_,((b.set i (.slice oj mj kj)).set j (.slice oi mi ki)).drew,d.step G I C z A⟩)
      have HSH:=hid q;clear hg b d HI z A q
      go_wp2_with fail
      go_region
      go_wp2_with fail
      exact ⟨⟨i+1,j-1,by go_num,by go_num,by omega,by omega,HN⟩,by simp [intOf];omega⟩
    · have hge:decide ((i:Int)<(j:Int))=false:=by simp;omega
      go_wp2
      go_end0
      obtain ⟨hg,c,b,d⟩:=HI.out;exact ⟨rfl,hg,c,b,d.1,d.stop (by omega) C⟩
theorem Qqz (oa:Option Addr) (b:Nat) (w:World):Calls prog 247 #[.slice oa 0 b] w fun e w'=>e=.returned (.tuple #[])∧w'=w:=by
  go_in
  go_wp2_with fail
  go_loopw [2,3] (fun s2 s3 wr=>s2=Bb 0∧s3=Bb (-1)∧wr=w) (fun _ _ _=>0)
  case atStart=>exact ⟨rfl,rfl,rfl⟩
  case round =>
    obtain ⟨rfl,rfl,rfl⟩:=hrel;go_wp2
    go_end0
    exact ⟨rfl,rfl⟩
theorem QsN (n g E:Nat) (cs:List Value) (w:World) (hn:1≤n) (hr:Row w g 4 cs) (C:n≤cs.length) (hb:n≤1000000) (q:∀ (t:Nat) x,t<n→cs[t]?=some x→∃ b,x=.bool b) :
    Calls prog 247 #[.slice (some ⟨g,0,none⟩) n E] w fun e w'=>e=.returned (.tuple #[])∧w.grownBy w' (some g)∧∃ c,Row w' g 4 c∧c.length=cs.length∧c.take n=(cs.take n).reverse:=by
  have D:=hid hr;clear hr
  go_in
  go_wp2_with fail
  go_loopw [2,3] (fun s2 s3 wr=>∃ i j:Nat,s2=Bb (i:Int)∧s3=Bb (j:Int)∧i+j+1=n∧i≤j+1∧Hid (w.grownBy wr (some g)∧∃ c,Row wr g 4 c∧Rv cs c n i)) (fun s2 _ _=>n-(intOf s2).toNat)
  case atStart=>exact ⟨0,n-1,rfl,by go_num,by omega,by omega,hid ⟨YQ _ _,cs,D.out,Rv.start _ _⟩⟩
  case round =>
    obtain ⟨i,j,rfl,rfl,G,hle,HI⟩:=hrel
    by_cases I:i<j
    · have hlt':(i:Int)<(j:Int):=by omega
      obtain ⟨hg,c,d,m⟩:=HI.out;have hcl2:=m.1;obtain ⟨xi,z⟩:∃ x,c[i]?=some x:=⟨c[i]'(by omega),Bk _⟩
      obtain ⟨xj,A⟩:∃ x,c[j]?=some x:=⟨c[j]'(by omega),Bk _⟩
      obtain ⟨bi,rfl⟩:=q i xi (by omega) ((m.at (Bj _) (by omega)).symm.trans z)
      obtain ⟨bj,rfl⟩:=q j xj (by omega) ((m.at (by omega) (by omega)).symm.trans A)
      have d0:=(d.cell i).trans z;have d1:=(d.cell j).trans A;have f0:=d.frozen i;have f1:=d.frozen j;have f2:=(d.set i (.bool bj)).frozen j;have hin:(i:Int)<(n:Int):=by omega
      have hjn:(j:Int)<(n:Int):=by omega
      have HN:=hid (show w.grownBy (((wr.setCell ⟨g,i,none⟩ (.bool bj)).setCell ⟨g,j,none⟩ (.bool bi)).drew) (some g)∧∃ c,Row (((wr.setCell ⟨g,i,none⟩ (.bool bj)).setCell ⟨g,j,none⟩ (.bool bi)).drew) g 4 c∧Rv cs c n (i+1) from
        ⟨ZV (Qo hg (Qo (YD _ _ _ _) (YD _ _ _ _))) ,_,((d.set i (.bool bj)).set j (.bool bi)).drew,m.step G I C z A⟩)
      have HSH:=hid q;clear hg d m HI z A q
      go_wp2_with fail
      go_region
      go_wp2_with fail
      exact ⟨⟨i+1,j-1,by go_num,by go_num,by omega,by omega,HN⟩,by simp [intOf];omega⟩
    · have hge:decide ((i:Int)<(j:Int))=false:=by simp;omega
      go_wp2
      go_end0
      obtain ⟨hg,c,d,m⟩:=HI.out;exact ⟨rfl,hg,c,d,m.1,m.stop (by omega) C⟩
theorem QsK (ls:List Bg) (v:Value) (base:Nat) (w:World) (h:Z9 w base v ls) (hb:base≤w.heap.size) (hl:ls.length≤1000000) :
    Calls prog 227 #[v] w fun e w'=>e=.returned (.tuple #[])∧Z9 w' base v ls.reverse∧Below base w w'∧YI 29 w w':=by
  obtain ⟨ys,rfl,j,m⟩:=h;rw [Bp] at hl;obtain ⟨h1,h2⟩:=id j
  by_cases h0:ys.length=0
  · obtain rfl:=CE.1 h0
    obtain ⟨oa,b,rfl⟩:∃ oa b,v=.slice oa 0 b:=by
      rcases h2 with ⟨h3,_⟩ | ⟨g,b,d,h3,_⟩
      · exact ⟨none,0,h3⟩
      · exact ⟨_,b,h3⟩
    refine (Qqy oa b w).mono ?_;rintro e w' ⟨rfl,rfl⟩;exact ⟨rfl,⟨[],rfl,j,m⟩,Bi _ _,YI.refl _ _⟩
  · rcases h2 with ⟨_,h0'⟩ | ⟨g,b,d,rfl,q,hg,hn,hm,hc,hx⟩
    · omega
    · have hr:Row w g 29 d.toList:=by unfold Row;simpa using hg
      have hx':d.toList.take ys.length=ys.map (·.v):=by simpa using hx
      have D:ys.length≤d.toList.length:=by simp;omega
      refine (QsL ys.length g b d.toList w (by omega) hr D hl (fun t x ht I=>?_)).mono ?_
      · have e:=Bl (fun l:List Value=>l[t]?) hx'
        simp only [BE,if_pos ht,Bt] at e;rw [I] at e
        obtain ⟨y,hy,rfl⟩:∃ y,ys[t]?=some y∧y.v=x:=by
          cases C:ys[t]? with
          | none=>rw [C] at e;simp at e
          | some y=>rw [C] at e;exact ⟨y,rfl,by simpa using e.symm⟩
        obtain ⟨oa,c,hs,_⟩:=(m y (Bn hy)).shape;exact ⟨oa,_,c,hs⟩
      · rintro e w' ⟨rfl,z,c,E,A,G⟩
        have hk:YI 29 w w':=Qbn (v:=.slice (some ⟨g,0,none⟩) ys.length b) j (by simpa [Value.ownBlock] using z)
        refine ⟨rfl,⟨ys.reverse,by rw [List.map_reverse],⟨by simp,.inr ⟨g,b,c.toArray,by simp,q,E,by simpa using hn,hm,by simp at A ⊢;omega,?_⟩⟩,fun y hy=>hk.owns (m y (by simpa using hy)) (by decide)⟩,
          (Bi base w).grown z hb (fun k hk=>by obtain rfl:=Bu hk;exact q),hk⟩
        simpa [hx'] using G
theorem QsM (bs:List Bool) (v:Value) (base:Nat) (w:World) (h:Qaa w base v bs) (hb:base≤w.heap.size) (hl:bs.length≤1000000) :
    Calls prog 247 #[v] w fun e w'=>e=.returned (.tuple #[])∧Qaa w' base v bs.reverse∧Below base w w'∧YI 4 w w':=by
  have j:=h;obtain ⟨h1,h2⟩:=h
  by_cases h0:bs.length=0
  · obtain rfl:=CE.1 h0
    obtain ⟨oa,b,rfl⟩:∃ oa b,v=.slice oa 0 b:=by
      rcases h2 with ⟨h3,_⟩ | ⟨g,b,d,h3,_⟩
      · exact ⟨none,0,h3⟩
      · exact ⟨_,b,h3⟩
    refine (Qqz oa b w).mono ?_;rintro e w' ⟨rfl,rfl⟩;exact ⟨rfl,j,Bi _ _,YI.refl _ _⟩
  · rcases h2 with ⟨_,h0'⟩ | ⟨g,b,d,rfl,m,hg,hn,hm,hc,hx⟩
    · omega
    · have hr:Row w g 4 d.toList:=by unfold Row;simpa using hg
      have hx':d.toList.take bs.length=bs.map Value.bool:=by simpa using hx
      have C:bs.length≤d.toList.length:=by simp;omega
      refine (QsN bs.length g b d.toList w (by omega) hr C hl (fun t x ht G=>?_)).mono ?_
      · have e:=Bl (fun l:List Value=>l[t]?) hx'
        simp only [BE,if_pos ht,Bt] at e;rw [G] at e
        cases A:bs[t]? with
        | none=>rw [A] at e;simp at e
        | some y=>rw [A] at e;exact ⟨y,by simpa using e⟩
      · rintro e w' ⟨rfl,q,c,D,z,E⟩
        have hk:YI 4 w w':=Qbn (v:=.slice (some ⟨g,0,none⟩) bs.length b) j (by simpa [Value.ownBlock] using q)
        refine ⟨rfl,⟨by simp,.inr ⟨g,b,c.toArray,by simp,m,D,by simpa using hn,hm,by simp at z ⊢;omega,?_⟩⟩,
          (Bi base w).grown q hb (fun k hk=>by obtain rfl:=Bu hk;exact m),hk⟩
        simpa [hx'] using E
theorem QpD (oa:Option Addr) (n c:Nat) (w:World):Calls prog 223 #[.slice oa n c] w fun e w'=>e=.returned (.bool ((n:Int) != 32))∧w'=w:=by
  go_in
  go_wp2;go_ret;exact ⟨rfl,rfl⟩
theorem QiG (ls:List Bg) (v:Value) (N:Nat) (w:World) (h:Jx w N v ls) (hl:ls.length<2305843009213693952) :
    Calls prog 248 #[v,.func (.func 223) #[] #[]] w fun e w'=>w'=w∧∃ i:Int,e=.returned (Bb i)∧(0≤i↔∃ d∈ls,d.length≠32):=by
  obtain ⟨oa,ca,rfl,hca⟩:=h.shape;have HL:=hid h;clear h;generalize hn:ls.length=n at *;have HN:=hid hn;clear hn
  go_in
  go_wp2_with fail
  go_loopw [8] (fun s8 wr=>∃ k:Nat,k≤n∧s8=Bb (k:Int)∧wr=w∧Hid (∀ d∈ls.take k,d.length=32)) (fun s8 _=>n-(intOf s8).toNat)
  case atStart=>exact ⟨0,BH _,rfl,rfl,hid (by simp)⟩
  case round =>
    obtain ⟨k,hk,rfl,M,HR⟩:=hrel;subst M
    by_cases E:k<n
    · have hlt':(k:Int)<(n:Int):=by omega
      have D:Jx wr N (.slice oa ls.length ca) ls:=by rw [HN.out];exact HL.out
      obtain ⟨b,o,rfl,hc⟩:=D.some (by rw [HN.out];omega)
      obtain ⟨hbN,x,hx,A⟩:=hc k (by rw [HN.out];exact E)
      obtain ⟨od,cd,rfl,_⟩:=A.shape;obtain ⟨d,hd⟩:∃ d,ls.getD k []=d:=⟨_,rfl⟩;have C:ls[k]?=some d:=by rw [← hd];exact getD_some _ _ _ (by rw [HN.out];exact E)
      rw [hd] at hx;have z:=hid C;have HF:=hid (QpD od d.length cd wr);clear D hc A hd C
      by_cases m:d.length=32
      · have e2:((d.length:Int) != 32)=false:=by simp;omega
        rw [e2] at HF
        have I:=hid (show ∀ d'∈ls.take (k+1),d'.length=32 from fun d' j=>by
          rw [CU,z.out] at j
          rcases Bz.1 j with j | j
          · exact HR.out d' j
          · obtain rfl:d'=d:=by simpa using j
            exact m)
        clear e2 m
        go_wp2_with fail
        refine HF.out.mono ?_;rintro e w5 ⟨rfl,q⟩;obtain rfl:=q.symm
        go_wp2_with fail
        exact ⟨⟨k+1,by omega,by go_num,by trivial,I⟩,by simp [intOf];omega⟩
      · have e2:((d.length:Int) != 32)=true:=by simp;omega
        rw [e2] at HF;have G:=hid m;clear e2 m
        go_wp2_with fail
        refine HF.out.mono ?_;rintro e w5 ⟨rfl,q⟩;obtain rfl:=q.symm;go_wp2;go_ret;exact ⟨rfl,_,rfl,fun _=>⟨d,Bn z.out,G.out⟩,fun _=>by omega⟩
    · have hge:decide ((k:Int)<(n:Int))=false:=by simp;omega
      go_wp2;go_ret;refine ⟨rfl,_,rfl,fun h=>absurd h (by decide),?_⟩
      rintro ⟨d,hd,L⟩;exact absurd (HR.out d (by rw [Bw (by rw [HN.out];omega)];exact hd)) L
theorem Qkn (ls:List Bg) (v:Value) (N:Nat) (w:World) (h:Jx w N v ls) (hl:ls.length<2305843009213693952) :
    Calls prog 222 #[v,.func (.func 223) #[] #[]] w fun e w'=>w'=w∧∃ b,e=.returned (.bool b)∧(b=true↔∃ d∈ls,d.length≠32):=by
  have HI:=hid (QiG ls v N w h hl);obtain ⟨oa,ca,rfl,hca⟩:=h.shape;clear h
  go_in
  go_wp2_with fail
  refine HI.out.mono ?_;rintro e w5 ⟨m,i,rfl,hi⟩;obtain rfl:=m.symm;have j:=hid hi;clear hi;go_wp2;go_ret;refine ⟨rfl,_,rfl,?_⟩;rw [D1];exact j.out
end Go.Proofs.YtnedafiokmjkkaaGreatDoor
