/- Pairs behind a slice value. -/
import Derived.Test.YtnedafiokmjkkaaGreatDoorsaWireBoth
import Derived.Lib.Walk
import Derived.Lib.BitFns
import Derived.BigQuiet
namespace Go.Proofs.YtnedafiokmjkkaaGreatDoor
open Tryz
variable {N g i k n:Nat} {w w' w1:World} {sv v v4:Value} {ls:List (List (BitVec 8))} {cs xs:List Value} {t ty:TypeId} {l:List (BitVec 8)} {o:Oper} {a:Act} {K:Act→World→Prop} {Q:Exit→Act→World→Prop} {oa:Option Addr}
set_option maxRecDepth 1000000
set_option maxHeartbeats 8000000
def QaB:Bg→Bg→Bool
  | [],[]=>false
  | [],_ :: _=>true
  | _ :: _,[]=>false
  | x :: a,y :: b=>if x=y then QaB a b else decide (x.toNat<y.toNat)
structure Pr where
  key:Bg
  val:Bg
structure Dg where
  key:Bg
  val:Bg
  gone:Bool
def QuR (k:Bg):List Pr→List Pr
  | []=>[]
  | p :: r=>if QaB p.key k=true then p :: QuR k r else []
def YR (k:Bg):List Pr→List Pr
  | []=>[]
  | p :: r=>if QaB p.key k=true then YR k r else p :: r
def back (x:List Pr):List Dg:=(x.map fun p=>(⟨p.key,p.val,false⟩:Dg)).reverse
def JX (n:Nat):Bg:=[BitVec.ofNat 8 (n / 16777216 % 256),BitVec.ofNat 8 (n / 65536 % 256),BitVec.ofNat 8 (n / 256 % 256),BitVec.ofNat 8 (n % 256)]
def ZR (k v:Bg):Bg:=sha (0 :: (JX k.length ++ (k ++ v)))
def Qo0 (a b:Bg):Bg:=sha (1 :: (a ++ b))
def Qvt (n:Nat) (t:Bg):Bg:=sha (2 :: (JX n ++ t))
def QeT:Nat→Nat→Nat→Nat
  | 0,k,_=>k
  | f+1,k,n=>if n≤2*k∨k=0 then k else QeT f (2*k) n
def QfI (k n:Nat):Nat:=QeT (n-k) k n
theorem Qa2 (f:Nat) (h:n≤2*k∨k=0):QeT f k n=k:=by cases f <;> grind [QeT]
theorem QpW: ∀ (f f' k n:Nat),n-k≤f→n-k≤f'→QeT f k n=QeT f' k n:=by
  intro f
  induction f with
  | zero=>intro f' k n h _;rw [Qa2 0 (by omega),Qa2 f' (by omega)]
  | succ f ih =>
    intro f' k n h h'
    by_cases hs:n≤2*k∨k=0
    · rw [Qa2 _ hs,Qa2 _ hs]
    · cases f' with
      | zero=>omega
      | succ f'=>rw [QeT,QeT,if_neg hs,if_neg hs,ih f' (2*k) n (by omega) (by omega)]
theorem QpX (k n:Nat):QfI k n=if n≤2*k∨k=0 then k else QfI (2*k) n:=by
  unfold QfI
  split
  · rename_i h
    exact Qa2 _ h
  · rename_i h
    obtain ⟨m,hm⟩:∃ m,n-k=m+1:=⟨n-k-1,by omega⟩
    rw [hm,QeT,if_neg h];exact QpW _ _ _ _ (by omega) (by omega)
def QI (n:Nat):Nat:=QfI 1 n
theorem QpY (k n:Nat) (hk:0<k) (h:k<n):0<QfI k n∧QfI k n<n:=by
  induction hd:n-k using Nat.strongRecOn generalizing k with
  | _ d ih =>
    rw [QpX]
    split
    · omega
    · grind
theorem Qc2 (n:Nat) (h:2≤n):0<QI n∧QI n<n:=by grind [QI,QpY]
def At (k:Bg) (l:List Pr) (i:Nat) (fd:Bool):Prop :=
  i≤l.length∧(∀ j p,j<i→l[j]?=some p→QaB p.key k=true)∧(∀ j p,i≤j→l[j]?=some p→QaB p.key k=false)∧(fd=true↔∃ p,l[i]?=some p∧p.key=k)
structure Tn where
  right:Bool
  frm:Nat
  n:Nat
def Qfq:Nat→Nat→Nat→Nat→List Tn
  | 0,_,_,_=>[]
  | f+1,i,n,a=>if 1<n then (if i<QI n then ⟨false,a+QI n,n-QI n⟩ :: Qfq f i (QI n) a else ⟨true,a,QI n⟩ :: Qfq f (i-QI n) (n-QI n) (a+QI n)) else []
def QaP (i n a:Nat):List Tn:=Qfq n i n a
theorem Qfr:∀ (f f' i n a:Nat),n≤f→n≤f'→Qfq f i n a=Qfq f' i n a
  | 0,0,_,_,_,_,_=>rfl
  | 0,f'+1,i,n,a,h,_=>by
    rw [Qfq,Qfq,if_neg (by omega)]
  | f+1,0,i,n,a,_,h=>by
    rw [Qfq,Qfq,if_neg (by omega)]
  | f+1,f'+1,i,n,a,h,h'=>by
    rw [Qfq,Qfq]
    by_cases hn:1<n
    · have hh:=Qc2 n hn
      rw [if_pos hn,if_pos hn,Qfr f f' i (QI n) a (by omega) (by omega),Qfr f f' (i-QI n) (n-QI n) (a+QI n) (by omega) (by omega)]
    · grind
theorem Qm2 (i n a:Nat) (h:¬ 1<n):QaP i n a=[]:=by
  unfold QaP
  match n,h with
  | 0,_=>rfl
  | 1,_=>rw [Qfq,if_neg (by omega)]
  | n+2,h=>omega
theorem Qj9 (i n a:Nat) (h:1<n) (hi:i<QI n):QaP i n a=⟨false,a+QI n,n-QI n⟩ :: QaP i (QI n) a:=by
  have hh:=Qc2 n h;unfold QaP;obtain ⟨m,rfl⟩:∃ m,n=m+1:=⟨n-1,by omega⟩
  rw [Qfq,if_pos h,if_pos hi,Qfr m (QI (m+1)) i (QI (m+1)) a (by omega) (by omega)]
theorem Qip (i n a:Nat) (h:1<n) (hi:¬ i<QI n):QaP i n a=⟨true,a,QI n⟩ :: QaP (i-QI n) (n-QI n) (a+QI n):=by
  have hh:=Qc2 n h;unfold QaP;obtain ⟨m,rfl⟩:∃ m,n=m+1:=⟨n-1,by omega⟩
  rw [Qfq,if_pos h,if_neg hi,Qfr m (m+1-QI (m+1)) (i-QI (m+1)) (m+1-QI (m+1)) (a+QI (m+1)) (by omega) (by omega)]
def upD:List Tn→List Bg→Bg→Bg
  | t :: ts,d :: ds,x=>if t.right=true then Qo0 d (upD ts ds x) else Qo0 (upD ts ds x) d
  | _,_,x=>x
theorem Qpc (ts:List Tn) (ds:List Bg) (x:Bg) (hx:x.length=32):(upD ts ds x).length=32:=by
  match ts,ds with
  | [],_=>rw [upD];exact hx;simp
  | _ :: _,[]=>rw [upD];exact hx;simp
  | t :: ts,d :: ds =>
    rw [upD]
    split
    · exact QR _
    · exact QR _
structure Prf where
  index:Int
  size:Int
  key:Bg
  val:Bg
  path:List Bg
def Prf.none:Prf:=⟨0,0,[],[],[]⟩
def JZ (r:Bg) (p:Prf):Prop :=
  1≤p.size∧p.size≤200∧0≤p.index∧p.index<p.size∧p.key.length≤60∧p.val.length≤200∧p.path.length=(QaP p.index.toNat p.size.toNat 0).length∧(∀ d∈p.path,d.length=32) ∧
  Qvt p.size.toNat (upD (QaP p.index.toNat p.size.toNat 0) p.path.reverse (ZR p.key p.val))=r
structure Gp where
  hasL:Bool
  hasR:Bool
  left:Prf
  right:Prf
def Gp.none:Gp:=⟨false,false,Prf.none,Prf.none⟩
def QaG (r:Bg) (k:Bg) (g:Gp):Prop :=
  if g.hasL=false∧g.hasR=false then r=Qvt 0 [] else
  (g.hasL=true→JZ r g.left∧QaB g.left.key k=true)∧(g.hasR=true→JZ r g.right∧QaB k g.right.key=true) ∧
  (g.hasL=true→g.hasR=true→g.right.size=g.left.size∧g.left.index+1=g.right.index)∧(g.hasL=true→g.hasR=false→g.left.index+1=g.left.size)∧(g.hasL=false→g.hasR=true→g.right.index=0)
open Go.RowKit
def Yi (P:Prop) (e:Ending):Prop:=∃ bb,e=.returned (.bool bb)∧(bb=true↔P)
theorem Yi.yes {P:Prop} (h:P):Yi P (.returned (.bool true)):=by grind [Yi]
theorem Yi.no {P:Prop} (h:¬ P):Yi P (.returned (.bool false)):=by grind [Yi]
theorem Jz.mono (h:Jz w N sv ls) (hN:N≤g):Jz w g sv ls:=by
  rcases h with h | h | ⟨b,off,cap,h1,h2,h3⟩
  · exact .inl h
  · exact .inr (.inl h)
  · refine .inr (.inr ⟨b,off,cap,h1,h2,fun i hi=>?_⟩)
    obtain ⟨hb,x,hx,e⟩:=h3 i hi;exact ⟨Bt hb hN,x,hx,e.mono hN⟩
def Qd7 (w:World) (N:Nat) (v:Value) (p:Prf):Prop:=∃ kv vv pv,v=.agg #[Bb p.index,Bb p.size,kv,vv,pv]∧Bytes w N kv p.key∧Bytes w N vv p.val∧Jz w N pv p.path
theorem Qd7.below {p:Prf} (h:Qd7 w N v p) (hg:Below N w w'):Qd7 w' N v p:=by
  obtain ⟨kv,vv,pv,rfl,h1,h2,h3⟩:=h;exact ⟨kv,vv,pv,rfl,h1.below hg,h2.below hg,h3.below hg⟩
theorem Qd7.mono {p:Prf} (h:Qd7 w N v p) (hN:N≤g):Qd7 w g v p:=by
  obtain ⟨kv,vv,pv,rfl,h1,h2,h3⟩:=h;exact ⟨kv,vv,pv,rfl,h1.mono hN,h2.mono hN,h3.mono hN⟩
def Prf.fits (p:Prf):Prop:=p.key.length≤140737488351232∧p.val.length≤140737488351232∧p.path.length<2305843009213693952∧∀ d∈p.path,d.length≤140737488351232
def GpV (w:World) (N:Nat) (v:Value) (g:Gp):Prop:=∃ k1 v1 p1 k2 v2 p2,v=.agg #[.bool g.hasL,.bool g.hasR,Bb g.left.index,Bb g.left.size,k1,v1,p1,Bb g.right.index,Bb g.right.size,k2,v2,p2] ∧
  Bytes w N k1 g.left.key∧Bytes w N v1 g.left.val∧Jz w N p1 g.left.path∧Bytes w N k2 g.right.key∧Bytes w N v2 g.right.val∧Jz w N p2 g.right.path
theorem GpV.below {g:Gp} (h:GpV w N v g) (hg:Below N w w'):GpV w' N v g:=by
  obtain ⟨k1,v1,p1,k2,v2,p2,rfl,h1,h2,h3,h4,h5,h6⟩:=h;exact ⟨k1,v1,p1,k2,v2,p2,rfl,h1.below hg,h2.below hg,h3.below hg,h4.below hg,h5.below hg,h6.below hg⟩
theorem GpV.mono {g:Gp} (h:GpV w N v g) (hN:N≤n):GpV w n v g:=by
  obtain ⟨k1,v1,p1,k2,v2,p2,rfl,h1,h2,h3,h4,h5,h6⟩:=h;exact ⟨k1,v1,p1,k2,v2,p2,rfl,h1.mono hN,h2.mono hN,h3.mono hN,h4.mono hN,h5.mono hN,h6.mono hN⟩
def Gp.fits (g:Gp):Prop:=g.left.fits∧g.right.fits
def upK (ws:List Tn) (path:List Bg) (k:Nat) (x:Bg):Bg:=upD (ws.drop (ws.length-k)) (path.take k).reverse x
theorem Qty (ws:List Tn) (path:List Bg) (x:Bg):upK ws path 0 x=x:=by grind [upK,upD]
theorem Qtx (ws:List Tn) (path:List Bg) (k:Nat) (x:Bg) (t:Tn) (d:Bg) (ht:ws[ws.length-1-k]?=some t) (hk:k<ws.length) (hd:path[k]?=some d) :
    upK ws path (k+1) x=if t.right=true then Qo0 d (upK ws path k x) else Qo0 (upK ws path k x) d:=by
  obtain ⟨h1,rfl⟩:=Bm.1 ht;obtain ⟨h2,rfl⟩:=Bm.1 hd;unfold upK;rw [show ws.length-(k+1)=ws.length-1-k by omega,Cs h1,show ws.length-1-k+1=ws.length-k by omega,Cx h2,List.reverse_append,Ep,Eq,upD]
theorem QuL (ws:List Tn) (path:List Bg) (x:Bg) (h:path.length=ws.length):upK ws path ws.length x=upD ws path.reverse x:=by grind [upK]
theorem Qpe (ws:List Tn) (path:List Bg) (k:Nat) (x:Bg) (hx:x.length=32):(upK ws path k x).length=32:=Qpc _ _ _ hx
def Qa5 (k v:Bg):Bg:=0 :: (JX k.length ++ (k ++ v))
def ZJ (a b:Bg):Bg:=1 :: (a ++ b)
def Qla (n:Nat) (t:Bg):Bg:=2 :: (JX n ++ t)
def QhF:List Tn→List Bg→Bg→List Bg
  | t :: ts,d :: ds,lf=>(if t.right=true then ZJ d (upD ts ds (sha lf)) else ZJ (upD ts ds (sha lf)) d) :: QhF ts ds lf
  | _,_,lf=>[lf]
theorem Ql7 (ds:List Bg) (lf:Bg):QhF [] ds lf=[lf]:=by rw [QhF];simp
theorem Qap: ∀ (ts:List Tn) (ds:List Bg) (lf:Bg),ds.length=ts.length→(QhF ts ds lf).length=ts.length+1
  | [],ds,lf,_=>by rw [Ql7];rfl
  | t :: ts,[],lf,h=>by simp at h
  | t :: ts,d :: ds,lf,h=>by
    rw [QhF,Cy,Qap ts ds lf (by simpa using h)]
    rfl
def QcK (ws:List Tn) (path:List Bg) (k:Nat) (lf:Bg):List Bg:=(QhF (ws.drop (ws.length-k)) (path.take k).reverse lf).reverse
theorem Qp9 (ws:List Tn) (path:List Bg) (lf:Bg):QcK ws path 0 lf=[lf]:=by grind [QcK,Ql7]
theorem Qp8 (ws:List Tn) (path:List Bg) (k:Nat) (lf:Bg) (t:Tn) (d:Bg) (ht:ws[ws.length-1-k]?=some t) (hk:k<ws.length) (hd:path[k]?=some d) :
    QcK ws path (k+1) lf=QcK ws path k lf ++ [if t.right=true then ZJ d (upK ws path k (sha lf)) else ZJ (upK ws path k (sha lf)) d]:=by
  obtain ⟨h1,rfl⟩:=Bm.1 ht;obtain ⟨h2,rfl⟩:=Bm.1 hd;unfold QcK upK;rw [show ws.length-(k+1)=ws.length-1-k by omega,Cs h1,show ws.length-1-k+1=ws.length-k by omega,Cx h2,List.reverse_append,Ep,Eq,QhF,List.reverse_cons]
theorem Qsc (ws:List Tn) (path:List Bg) (lf:Bg) (h:path.length=ws.length):QcK ws path ws.length lf=(QhF ws path.reverse lf).reverse:=by grind [QcK]
def Qfs (p:Prf):List Tn:=QaP p.index.toNat p.size.toNat 0
def Qqa (p:Prf):List Bg:=Qla p.size.toNat (upD (Qfs p) p.path.reverse (ZR p.key p.val)) :: QhF (Qfs p) p.path.reverse (Qa5 p.key p.val)
theorem Ql8 (p:Prf) (h:p.path.length=(Qfs p).length):(Qqa p).length=p.path.length+2:=by grind [Qqa,Qap]
theorem Qtp (n:Nat) (t:Bg):(Qla n t).length=5+t.length:=by grind [Qla,JX]
theorem QjL (k v:Bg):(ZJ k v).length=1+(k.length+v.length):=by grind [ZJ]
theorem Qma (x:Nat) (w:World) (h:x<256):Calls prog 271 #[.int .u64 (x:Int)] w fun e w'=>e=.returned (Bb (Lib.bitLen x:Int))∧w'=w:=by
  have e1:decide ((4294967296:Int)≤(x:Int))=false:=by grind
  have e2:decide ((65536:Int)≤(x:Int))=false:=by grind
  go_in
  go_wp2
  all_goals (go_ret;refine ⟨Bl Ending.returned (Bl (Value.int IntKind.i64) ?_),rfl⟩)
  have hl:=Lib.bitLen_le8 ⟨x,h⟩;have he:=Lib.len8_eq ⟨x,h⟩;unfold Lib.len8 at he;simp only [Eh] at he;have hs:x<Lib.len8tab.size:=by omega
  rw [getElem?_pos Lib.len8tab x hs] at he;simp only at hl he;have he2:((Lib.len8tab[x]'hs).toNat:Int)=(Lib.bitLen x:Int):=he;unfold RowKit.wrap64;omega
theorem QpZ: ∀ n:Fin 257,2≤n.val→1≤Lib.bitLen (n.val-1)∧Lib.bitLen (n.val-1)≤8∧QI n.val=2 ^ (Lib.bitLen (n.val-1)-1):=by decide +kernel
theorem Qqi (x:Nat) (w:World) (h:x<256):Calls prog 281 #[.int .u64 (x:Int)] w fun e w'=>e=.returned (Bb (Lib.bitLen x:Int))∧w'=w:=by
  have HL:=hid (Qma x w h)
  go_in
  go_wp2_with fail
  refine HL.out.mono ?_;rintro e w' ⟨rfl,hw⟩;go_wp2;go_ret;exact ⟨rfl,rfl⟩
theorem QqU (n:Nat) (w:World) (h2:2≤n) (hn:n≤256):Calls prog 268 #[Bb (n:Int)] w fun e w'=>e=.returned (Bb (QI n:Int))∧w'=w:=by
  obtain ⟨h1,h8,hh⟩:=QpZ ⟨n,by omega⟩ h2
  obtain ⟨x,hx⟩:∃ x,n-1=x:=⟨_,rfl⟩;rw [hx] at h1 h8 hh;obtain ⟨b,hb⟩:∃ b,Lib.bitLen x=b:=⟨_,rfl⟩;have HL:=hid (Qqi x w (by omega))
  rw [hb] at h1 h8 hh HL;have HH:=hid hh;have e1:(n:Int)-1=(x:Int):=by omega
  go_in
  go_wp2_with fail
  refine HL.out.mono ?_;rintro e w' ⟨rfl,hw⟩;have j:b=1∨b=2∨b=3∨b=4∨b=5∨b=6∨b=7∨b=8:=by omega
  rcases j with rfl | rfl | rfl | rfl | rfl | rfl | rfl | rfl <;>
    (go_wp2
     go_ret
     exact ⟨by rw [HH.out];rfl,rfl⟩)
theorem QtL (m:Nat) (h:m<256):V (BitVec.ofNat 8 m)=.int .u8 (m:Int):=by
  unfold V b8;simp;omega
theorem QnF (n:Nat):(JX n).map V=[.int .u8 ((n:Int) / 16777216 % 256),.int .u8 ((n:Int) / 65536 % 256),.int .u8 ((n:Int) / 256 % 256),.int .u8 ((n:Int) % 256)]:=by grind [JX,QtL]
def Pr.fits (p:Pr):Prop:=p.key.length≤140737488351232∧p.val.length≤140737488351232
theorem Qc9 {base e size:Nat} (h:w.ownsRow base e size v n xs) (hg:Bd w w'):w'.ownsRow base e size v n xs:=by
  obtain ⟨h1,h2⟩:=h;refine ⟨h1,?_⟩
  rcases h2 with h2 | ⟨g,cap,cur,h3,h4,h5,h6⟩
  · exact .inl h2
  · exact .inr ⟨g,cap,cur,h3,h4,(hg.block g (BP.1 h5).1).trans h5,h6⟩
def Dg.fits (d:Dg):Prop:=d.key.length≤140737488351232∧d.val.length≤140737488351232
theorem Qdk (n:Nat):∀ i a,(QaP i n a).length≤n:=by
  induction n using Nat.strongRecOn with
  | _ n ih =>
    intro i a
    by_cases h1:1<n
    · have hh:=Qc2 n h1
      by_cases b:i<QI n
      · rw [Qj9 i n a h1 b,Cy]
        have:=ih (QI n) (by omega) i a
        omega
      · rw [Qip i n a h1 b,Cy]
        have:=ih (n-QI n) (by omega) (i-QI n) (a+QI n)
        omega
    · rw [Qm2 i n a h1]
      exact BF _
def YK (t:TypeId) (w w':World):Prop:=∀ (k:Nat) (cs:Array Value) (t':TypeId) (fr:Nat×Nat),w.heap[k]?=some (.cells cs t' fr)→t'≠t→w'.heap[k]?=w.heap[k]?
theorem YK.refl (t:TypeId) (w:World):YK t w w:=fun _ _ _ _ _ _=>rfl
theorem YK.trans {w2:World} (h:YK t w w1) (k:YK t w1 w2):YK t w w2:=fun i cs t' fr hi ht=>by
  have h1:=h i cs t' fr hi ht;exact (k i cs t' fr (h1.trans hi) ht).trans h1
theorem YK.row (h:YK t w w') (hr:Row w g ty cs) (ht:ty≠t):Row w' g ty cs:=by
  unfold Row at hr ⊢;rw [h g _ _ _ hr ht];exact hr
theorem YK.owns (h:YK t w w') {base e:Nat} (ho:w.ownsRow base e 1 v n xs) (ht:e≠t):w'.ownsRow base e 1 v n xs:=by
  obtain ⟨h1,h2⟩:=ho;refine ⟨h1,?_⟩
  rcases h2 with h2 | ⟨g,cap,cur,h3,h4,h5,h6⟩
  · exact .inl h2
  · exact .inr ⟨g,cap,cur,h3,h4,(h g _ _ _ h5 ht).trans h5,h6⟩
theorem Qp5 (hr:Row w g t cs) (i:Nat) (x:Value):YK t w (w.setCell ⟨g,i,none⟩ x):=fun k cs' t' fr hk ht=>by
  refine DM w ⟨g,i,none⟩ x k ?_;rintro rfl;unfold Row at hr;rw [hr] at hk;simp at hk;exact ht hk.2.1.symm
theorem Qbr {base t:Nat} (ho:w.ownsRow base t 1 v n xs) (hg:w.grownBy w' v.ownBlock):YK t w w':=fun k cs t' fr hk ht=>by
  refine hg.block k (BP.1 hk).1 ?_;intro he
  rcases ho.2 with ⟨rfl,_⟩ | ⟨g,c,cur,rfl,_,h5,_⟩
  · simp [Value.ownBlock] at he
  · obtain rfl:k=g:=by simpa [Value.ownBlock] using he
    rw [h5] at hk;simp at hk;exact ht hk.2.1.symm
structure LV where
  v:Value
  l:Bg
def Qah (w:World) (base:Nat) (v:Value) (ls:List Bg):Prop :=
  ∃ ys:List LV,ys.map (·.l)=ls∧w.ownsRow base 29 1 v ys.length (ys.map (·.v))∧∀ y∈ys,Qq w base y.v y.l
theorem Qah.nil (w:World) (base:Nat):Qah w base (Bc) []:=⟨[],rfl,C9 w base 29 1,fun y hy=>by cases hy⟩
theorem Qah.below {base:Nat} (h:Qah w base v ls) (hg:Bd w w'):Qah w' base v ls:=by
  obtain ⟨ys,h1,h2,h3⟩:=h;exact ⟨ys,h1,Qc9 h2 hg,fun y hy=>(h3 y hy).below hg⟩
theorem Qah.keep {base:Nat} (h:Qah w base v ls) (hg:YK t w w') (ht:29≠t) (b:5≠t):Qah w' base v ls:=by
  obtain ⟨ys,h1,h2,h3⟩:=h;exact ⟨ys,h1,hg.owns h2 ht,fun y hy=>hg.owns (h3 y hy) b⟩
theorem Qah.mono {base base':Nat} (h:Qah w base v ls) (hb:base'≤base):Qah w base' v ls:=by
  obtain ⟨ys,h1,⟨h2,b⟩,h3⟩:=h;refine ⟨ys,h1,⟨h2,?_⟩,fun y hy=>(h3 y hy).mono hb⟩
  rcases b with h | ⟨g,cap,cur,k1,k2,k3⟩
  · exact .inl h
  · exact .inr ⟨g,cap,cur,k1,Bh hb k2,k3⟩
theorem Qah.shape {base:Nat} (h:Qah w base v ls):∃ oa b,v=.slice oa ls.length b∧ls.length≤b:=by
  obtain ⟨ys,rfl,⟨_,h2⟩,_⟩:=h
  rcases h2 with ⟨h3,h4⟩ | ⟨g,b,cur,h3,_,_,h4,_⟩
  · exact ⟨none,0,by rw [Bp,h4];exact h3,by rw [Bp];omega⟩
  · exact ⟨_,b,by rw [Bp];exact h3,by rw [Bp];exact h4⟩
theorem QlZ: (prog.info? 29).map (fun i=>(i.zero,i.size,i.bytes))=some (some (Bc),1,24):=by kernel_rfl
theorem Qq.one {base:Nat} (h:Qq w base v l):v.oneCell'=true:=by
  obtain ⟨oa,cap,rfl,_⟩:=h.shape;rfl
theorem Qm3 (s x:Operand)
    (ho:o.op=.call { callee:=.builtin .append,args:=#[s,x],argTypes:=#[40,40] })
    (base:Nat) (v:Value) (ls:List Bg) (hs:a.eval s=v) (z:Qah w base v ls) (g:Nat) (y:Value) (l:Bg) (hx:a.eval x=.slice (some ⟨g,0,none⟩) 1 1)
    (hr:Row w g 29 [y]) (hy:Qq w base y l) (hl:ls.length≤1000000) (b:base≤w.heap.size)
    (h:∀ v' w',Qah w' base v' (ls ++ [l])→Below base w w'→YK 29 w w'→K (a.put o.dst v') w'):o.wp prog a w K Q:=by
  obtain ⟨i0,A,D,E,G⟩:=Cg QlZ;obtain ⟨ys,rfl,e,C⟩:=z;rw [Bp] at hl;refine wp_append_own w s x 40 ho base 29 i0 (Bc) 1 24 underlying40 A D E G rfl (by decide) v ys.length (ys.map (·.v)) hs e ⟨g,0,none⟩ 1 1 [y] hx rfl ?_ ?_ (by unfold maxLen;omega) (by omega) b ?_
  · intro j u hj
    have m:(⟨g,0,none⟩:Addr).add j=⟨g,j,none⟩:=by unfold Addr.add;split <;> simp_all
    rw [m,hr.cell];exact hj
  · intro u hu
    obtain rfl:u=y:=by simpa using hu
    exact hy.one
  · intro v' w' h1 h2 _
    have hk:YK 29 w w':=Qbr e h2;refine h v' w' ⟨ys ++ [⟨y,l⟩],by simp,?_,fun q hq=>?_⟩ ((Bi base w).grown h2 b (fun k hk=>(C3 e k hk).1)) hk
    · rw [Br,Cc]
      exact h1
    · rcases Bw.1 hq with hq | hq
      · exact hk.owns (C q hq) (by decide)
      · obtain rfl:q=⟨y,l⟩:=by simpa using hq
        exact hk.owns hy (by decide)
theorem Qay {j:Array Oper} {rest:List Oper} (m:o.guard=none) (s x:Operand)
    (ho:o.op=.call { callee:=.builtin .append,args:=#[s,x],argTypes:=#[40,40] })
    (base:Nat) (v:Value) (ls:List Bg) (hs:a.eval s=v) (e:Qah w base v ls) (g:Nat) (y:Value) (l:Bg) (hx:a.eval x=.slice (some ⟨g,0,none⟩) 1 1)
    (hr:Row w g 29 [y]) (hy:Qq w base y l) (hl:ls.length≤1000000) (b:base≤w.heap.size)
    (h:∀ v' w',Qah w' base v' (ls ++ [l])→Below base w w'→YK 29 w w'→wpList prog j Q rest (a.put o.dst v') w'):wpList prog j Q (o :: rest) a w :=
  CW m fun _ hK=>Qm3 s x ho base v ls hs e g y l hx hr hy hl b fun v' w' h1 h2 h3=>hK _ _ (h v' w' h1 h2 h3)
def Qai (w:World) (base:Nat) (v:Value) (bs:List Bool):Prop:=w.ownsRow base 4 1 v bs.length (bs.map Value.bool)
theorem Qai.nil (w:World) (base:Nat):Qai w base (Bc) []:=C9 w base 4 1
theorem Qai.below {base:Nat} {bs:List Bool} (h:Qai w base v bs) (hg:Bd w w'):Qai w' base v bs:=Qc9 h hg
theorem Qai.shape {base:Nat} {bs:List Bool} (h:Qai w base v bs):∃ oa b,v=.slice oa bs.length b∧bs.length≤b:=by
  obtain ⟨_,h2⟩:=h
  rcases h2 with ⟨h3,h4⟩ | ⟨g,b,cur,h3,_,_,h4,_⟩
  · exact ⟨none,0,by rw [h4];exact h3,by omega⟩
  · exact ⟨_,b,h3,h4⟩
theorem Qai.get {base:Nat} {j:Nat} {bs:List Bool} (h:Qai w base (.slice oa n j) bs) (hn:0<n):∃ g,oa=some ⟨g,0,none⟩∧base≤g∧g<w.heap.size∧∀ (i:Nat) b,bs[i]?=some b→w.cell? ⟨g,i,none⟩=some (.bool b):=by
  obtain ⟨h1,h2⟩:=h
  rcases h2 with ⟨h0,h0'⟩ | ⟨g,cap',m,hv,hb,hg,hn',_,hc,hx⟩
  · simp at h0;omega
  · simp at hv
    refine ⟨g,hv.1,hb,(BP.1 hg).1,fun i b hb=>?_⟩
    have q:i<bs.length:=(Bm.1 hb).1;rw [CC w g _ m _ _ hg,← Dn];have e:=Bl (fun l:List Value=>l[i]?) hx
    simp only [BE,Dm] at e;rw [if_pos q] at e;rw [e,Bs,hb];rfl
theorem QnL: (prog.info? 4).map (fun i=>(i.zero,i.size,i.bytes))=some (some (.bool false),1,1):=by kernel_rfl
theorem Qm4 (s x:Operand)
    (ho:o.op=.call { callee:=.builtin .append,args:=#[s,x],argTypes:=#[282,282] })
    (base:Nat) (v:Value) (bs:List Bool) (hs:a.eval s=v) (m:Qai w base v bs) (g:Nat) (b:Bool) (hx:a.eval x=.slice (some ⟨g,0,none⟩) 1 1)
    (hr:Row w g 4 [.bool b]) (hl:bs.length≤1000000) (e:base≤w.heap.size)
    (h:∀ v' w',Qai w' base v' (bs ++ [b])→Below base w w'→YK 4 w w'→K (a.put o.dst v') w'):o.wp prog a w K Q:=by
  obtain ⟨i0,z,A,C,D⟩:=Cg QnL;refine wp_append_own w s x 282 ho base 4 i0 (.bool false) 1 1 underlying282 z A C D rfl (by decide) v bs.length (bs.map Value.bool) hs m ⟨g,0,none⟩ 1 1 [.bool b] hx rfl ?_ ?_ (by unfold maxLen;omega) (by omega) e ?_
  · intro j u hj
    have q:(⟨g,0,none⟩:Addr).add j=⟨g,j,none⟩:=by unfold Addr.add;split <;> simp_all
    rw [q,hr.cell];exact hj
  · intro u hu
    obtain rfl:u=.bool b:=by simpa using hu
    rfl
  · intro v' w' h1 h2 _
    refine h v' w' ?_ ((Bi base w).grown h2 e (fun k hk=>(C3 m k hk).1)) (Qbr m h2)
    unfold Qai;rw [Br,Cc];exact h1
theorem QgB {m:Array Oper} {rest:List Oper} (q:o.guard=none) (s x:Operand)
    (ho:o.op=.call { callee:=.builtin .append,args:=#[s,x],argTypes:=#[282,282] })
    (base:Nat) (v:Value) (bs:List Bool) (hs:a.eval s=v) (j:Qai w base v bs) (g:Nat) (b:Bool) (hx:a.eval x=.slice (some ⟨g,0,none⟩) 1 1)
    (hr:Row w g 4 [.bool b]) (hl:bs.length≤1000000) (e:base≤w.heap.size)
    (h:∀ v' w',Qai w' base v' (bs ++ [b])→Below base w w'→YK 4 w w'→wpList prog m Q rest (a.put o.dst v') w'):wpList prog m Q (o :: rest) a w :=
  CW q fun _ hK=>Qm4 s x ho base v bs hs j g b hx hr hl e fun v' w' h1 h2 h3=>hK _ _ (h v' w' h1 h2 h3)
def Rv (cs c:List Value) (n i:Nat):Prop:=c.length=cs.length∧∀ t,t<n→c[t]?=if t<i∨n<t+1+i then cs[n-1-t]? else cs[t]?
theorem Rv.start (cs:List Value) (n:Nat):Rv cs cs n 0:=⟨rfl,fun t ht=>by rw [if_neg (by omega)]⟩
theorem Rv.step {c:List Value} {j:Nat} (h:Rv cs c n i) (hij:i+j+1=n) (hlt:i<j) (hn:n≤cs.length) (hi:c[i]?=some v) (hj:c[j]?=some v4):Rv cs ((c.set i v4).set j v) n (i+1):=by
  obtain ⟨h1,h2⟩:=h;have ei:=h2 i (by omega)
  have ej:=h2 j (by omega)
  rw [if_neg (by omega),hi] at ei
  rw [if_neg (by omega),hj] at ej
  refine ⟨by simp [h1],fun t ht=>?_⟩
  rw [Ef,Ef]
  by_cases e1:j=t
  · subst e1
    rw [if_pos rfl,if_pos (by simp;omega),if_pos (by omega),show n-1-j=i by omega]
    exact ei
  · rw [if_neg e1]
    by_cases e2:i=t
    · subst e2
      rw [if_pos rfl,if_pos (by omega),if_pos (by omega),show n-1-i=j by omega]
      exact ej
    · rw [if_neg e2,h2 t ht]
      by_cases e3:t<i∨n<t+1+i
      · rw [if_pos e3,if_pos (by omega)]
      · rw [if_neg e3,if_neg (by omega)]
theorem Rv.at {c:List Value} {t:Nat} (h:Rv cs c n i) (h1:i≤t) (h2:t+i<n):c[t]?=cs[t]?:=by
  rw [h.2 t (by omega),if_neg (by omega)]
theorem Rv.stop {c:List Value} (h:Rv cs c n i) (hi:n≤i+i+1) (hn:n≤cs.length):c.take n=(cs.take n).reverse:=by
  obtain ⟨h1,h2⟩:=h;refine CP fun t=>?_
  by_cases ht:t<n
  · have e0:(cs.take n).reverse[t]?=cs[n-1-t]?:=by
      rw [List.getElem?_reverse (by simp;omega),C2,DI hn,BE,if_pos (by omega)]
    rw [BE,if_pos ht,h2 t ht,e0]
    by_cases e:t<i∨n<t+1+i
    · rw [if_pos e]
    · rw [if_neg e,show n-1-t=t by omega]
  · rw [Dr (by simp;omega),Dr (by simp;omega)]
theorem QqM (oa:Option Addr) (b:Nat) (w:World):Calls prog 227 #[.slice oa 0 b] w fun e w'=>e=.returned (.tuple #[])∧w'=w:=by
  go_in
  go_wp2_with fail
  go_loopw [2,3] (fun s2 s3 wr=>s2=Bb 0∧s3=Bb (-1)∧wr=w) (fun _ _ _=>0)
  case atStart=>exact ⟨rfl,rfl,rfl⟩
  case round =>
    obtain ⟨rfl,rfl,rfl⟩:=hrel;go_wp2
    go_end0
    exact ⟨rfl,rfl⟩
theorem QsZ (n g G:Nat) (cs:List Value) (w:World) (hn:1≤n) (hr:Row w g 29 cs) (D:n≤cs.length) (hb:n≤1000000) (z:∀ (t:Nat) x,t<n→cs[t]?=some x→∃ oa m k,x=.slice oa m k) :
    Calls prog 227 #[.slice (some ⟨g,0,none⟩) n G] w fun e w'=>e=.returned (.tuple #[])∧w.grownBy w' (some g)∧∃ c,Row w' g 29 c∧c.length=cs.length∧c.take n=(cs.take n).reverse:=by
  have E:=hid hr;clear hr
  go_in
  go_wp2_with fail
  go_loopw [2,3] (fun s2 s3 wr=>∃ i j:Nat,s2=Bb (i:Int)∧s3=Bb (j:Int)∧i+j+1=n∧i≤j+1∧Hid (w.grownBy wr (some g)∧∃ c,Row wr g 29 c∧Rv cs c n i)) (fun s2 _ _=>n-(intOf s2).toNat)
  case atStart=>exact ⟨0,n-1,rfl,by go_num,by omega,by omega,hid ⟨YT _ _,cs,E.out,Rv.start _ _⟩⟩
  case round =>
    obtain ⟨i,j,rfl,rfl,I,hle,HI⟩:=hrel
    by_cases L:i<j
    · have hlt':(i:Int)<(j:Int):=by omega
      obtain ⟨hg,c,b,q⟩:=HI.out;have hcl2:=q.1;obtain ⟨xi,A⟩:∃ x,c[i]?=some x:=⟨c[i]'(by omega),Bk _⟩
      obtain ⟨xj,C⟩:∃ x,c[j]?=some x:=⟨c[j]'(by omega),Bk _⟩
      obtain ⟨oi,mi,ki,rfl⟩:=z i xi (by omega) ((q.at (Bj _) (by omega)).symm.trans A)
      obtain ⟨oj,mj,kj,rfl⟩:=z j xj (by omega) ((q.at (by omega) (by omega)).symm.trans C)
      have d0:=(b.cell i).trans A;have d1:=(b.cell j).trans C;have f0:=b.frozen i;have f1:=b.frozen j;have f2:=(b.set i (.slice oj mj kj)).frozen j;have hin:(i:Int)<(n:Int):=by omega
      have hjn:(j:Int)<(n:Int):=by omega
      have HN:=hid (show w.grownBy (((wr.setCell ⟨g,i,none⟩ (.slice oj mj kj)).setCell ⟨g,j,none⟩ (.slice oi mi ki)).drew) (some g)∧∃ c,Row (((wr.setCell ⟨g,i,none⟩ (.slice oj mj kj)).setCell ⟨g,j,none⟩ (.slice oi mi ki)).drew) g 29 c∧Rv cs c n (i+1) from
        ⟨Z1 (Qo hg (Qo (YF _ _ _ _) (YF _ _ _ _))) ,_,((b.set i (.slice oj mj kj)).set j (.slice oi mi ki)).drew,q.step I L D A C⟩)
      have HSH:=hid z;clear hg b q HI A C z
      go_wp2_with fail
      go_region
      go_wp2_with fail
      exact ⟨⟨i+1,j-1,by go_num,by go_num,by omega,by omega,HN⟩,by simp [intOf];omega⟩
    · have hge:decide ((i:Int)<(j:Int))=false:=by simp;omega
      go_wp2
      go_end0
      obtain ⟨hg,c,b,q⟩:=HI.out;exact ⟨rfl,hg,c,b,q.1,q.stop (by omega) D⟩
theorem QqN (oa:Option Addr) (b:Nat) (w:World):Calls prog 247 #[.slice oa 0 b] w fun e w'=>e=.returned (.tuple #[])∧w'=w:=by
  go_in
  go_wp2_with fail
  go_loopw [2,3] (fun s2 s3 wr=>s2=Bb 0∧s3=Bb (-1)∧wr=w) (fun _ _ _=>0)
  case atStart=>exact ⟨rfl,rfl,rfl⟩
  case round =>
    obtain ⟨rfl,rfl,rfl⟩:=hrel;go_wp2
    go_end0
    exact ⟨rfl,rfl⟩
theorem Qs1 (n g G:Nat) (cs:List Value) (w:World) (hn:1≤n) (hr:Row w g 4 cs) (D:n≤cs.length) (hb:n≤1000000) (z:∀ (t:Nat) x,t<n→cs[t]?=some x→∃ b,x=.bool b) :
    Calls prog 247 #[.slice (some ⟨g,0,none⟩) n G] w fun e w'=>e=.returned (.tuple #[])∧w.grownBy w' (some g)∧∃ c,Row w' g 4 c∧c.length=cs.length∧c.take n=(cs.take n).reverse:=by
  have E:=hid hr;clear hr
  go_in
  go_wp2_with fail
  go_loopw [2,3] (fun s2 s3 wr=>∃ i j:Nat,s2=Bb (i:Int)∧s3=Bb (j:Int)∧i+j+1=n∧i≤j+1∧Hid (w.grownBy wr (some g)∧∃ c,Row wr g 4 c∧Rv cs c n i)) (fun s2 _ _=>n-(intOf s2).toNat)
  case atStart=>exact ⟨0,n-1,rfl,by go_num,by omega,by omega,hid ⟨YT _ _,cs,E.out,Rv.start _ _⟩⟩
  case round =>
    obtain ⟨i,j,rfl,rfl,I,hle,HI⟩:=hrel
    by_cases L:i<j
    · have hlt':(i:Int)<(j:Int):=by omega
      obtain ⟨hg,c,m,q⟩:=HI.out;have hcl2:=q.1;obtain ⟨xi,A⟩:∃ x,c[i]?=some x:=⟨c[i]'(by omega),Bk _⟩
      obtain ⟨xj,C⟩:∃ x,c[j]?=some x:=⟨c[j]'(by omega),Bk _⟩
      obtain ⟨bi,rfl⟩:=z i xi (by omega) ((q.at (Bj _) (by omega)).symm.trans A)
      obtain ⟨bj,rfl⟩:=z j xj (by omega) ((q.at (by omega) (by omega)).symm.trans C)
      have d0:=(m.cell i).trans A;have d1:=(m.cell j).trans C;have f0:=m.frozen i;have f1:=m.frozen j;have f2:=(m.set i (.bool bj)).frozen j;have hin:(i:Int)<(n:Int):=by omega
      have hjn:(j:Int)<(n:Int):=by omega
      have HN:=hid (show w.grownBy (((wr.setCell ⟨g,i,none⟩ (.bool bj)).setCell ⟨g,j,none⟩ (.bool bi)).drew) (some g)∧∃ c,Row (((wr.setCell ⟨g,i,none⟩ (.bool bj)).setCell ⟨g,j,none⟩ (.bool bi)).drew) g 4 c∧Rv cs c n (i+1) from
        ⟨Z1 (Qo hg (Qo (YF _ _ _ _) (YF _ _ _ _))) ,_,((m.set i (.bool bj)).set j (.bool bi)).drew,q.step I L D A C⟩)
      have HSH:=hid z;clear hg m q HI A C z
      go_wp2_with fail
      go_region
      go_wp2_with fail
      exact ⟨⟨i+1,j-1,by go_num,by go_num,by omega,by omega,HN⟩,by simp [intOf];omega⟩
    · have hge:decide ((i:Int)<(j:Int))=false:=by simp;omega
      go_wp2
      go_end0
      obtain ⟨hg,c,m,q⟩:=HI.out;exact ⟨rfl,hg,c,m,q.1,q.stop (by omega) D⟩
theorem QsY (ls:List Bg) (v:Value) (base:Nat) (w:World) (h:Qah w base v ls) (hb:base≤w.heap.size) (hl:ls.length≤1000000) :
    Calls prog 227 #[v] w fun e w'=>e=.returned (.tuple #[])∧Qah w' base v ls.reverse∧Below base w w'∧YK 29 w w':=by
  obtain ⟨ys,rfl,m,q⟩:=h;rw [Bp] at hl;obtain ⟨h1,h2⟩:=id m
  by_cases h0:ys.length=0
  · obtain rfl:=CD.1 h0
    obtain ⟨oa,b,rfl⟩:∃ oa b,v=.slice oa 0 b:=by
      rcases h2 with ⟨h3,_⟩ | ⟨g,b,j,h3,_⟩
      · exact ⟨none,0,h3⟩
      · exact ⟨_,b,h3⟩
    refine (QqM oa b w).mono ?_;rintro e w' ⟨rfl,rfl⟩;exact ⟨rfl,⟨[],rfl,m,q⟩,Bi _ _,YK.refl _ _⟩
  · rcases h2 with ⟨_,h0'⟩ | ⟨g,b,j,rfl,z,hg,hn,hm,hc,hx⟩
    · omega
    · have hr:Row w g 29 j.toList:=by unfold Row;simpa using hg
      have hx':j.toList.take ys.length=ys.map (·.v):=by simpa using hx
      have E:ys.length≤j.toList.length:=by simp;omega
      refine (QsZ ys.length g b j.toList w (by omega) hr E hl (fun t x ht L=>?_)).mono ?_
      · have e:=Bl (fun l:List Value=>l[t]?) hx'
        simp only [BE,if_pos ht,Bs] at e;rw [L] at e
        obtain ⟨y,hy,rfl⟩:∃ y,ys[t]?=some y∧y.v=x:=by
          cases D:ys[t]? with
          | none=>rw [D] at e;simp at e
          | some y=>rw [D] at e;exact ⟨y,rfl,by simpa using e.symm⟩
        obtain ⟨oa,c,hs,_⟩:=(q y (Bn hy)).shape;exact ⟨oa,_,c,hs⟩
      · rintro e w' ⟨rfl,A,c,G,C,I⟩
        have hk:YK 29 w w':=Qbr (v:=.slice (some ⟨g,0,none⟩) ys.length b) m (by simpa [Value.ownBlock] using A)
        refine ⟨rfl,⟨ys.reverse,by rw [List.map_reverse],⟨by simp,.inr ⟨g,b,c.toArray,by simp,z,G,by simpa using hn,hm,by simp at C ⊢;omega,?_⟩⟩,fun y hy=>hk.owns (q y (by simpa using hy)) (by decide)⟩,
          (Bi base w).grown A hb (fun k hk=>by obtain rfl:=Bu hk;exact z),hk⟩
        simpa [hx'] using I
theorem Qs0 (bs:List Bool) (v:Value) (base:Nat) (w:World) (h:Qai w base v bs) (hb:base≤w.heap.size) (hl:bs.length≤1000000) :
    Calls prog 247 #[v] w fun e w'=>e=.returned (.tuple #[])∧Qai w' base v bs.reverse∧Below base w w'∧YK 4 w w':=by
  have m:=h;obtain ⟨h1,h2⟩:=h
  by_cases h0:bs.length=0
  · obtain rfl:=CD.1 h0
    obtain ⟨oa,b,rfl⟩:∃ oa b,v=.slice oa 0 b:=by
      rcases h2 with ⟨h3,_⟩ | ⟨g,b,j,h3,_⟩
      · exact ⟨none,0,h3⟩
      · exact ⟨_,b,h3⟩
    refine (QqN oa b w).mono ?_;rintro e w' ⟨rfl,rfl⟩;exact ⟨rfl,m,Bi _ _,YK.refl _ _⟩
  · rcases h2 with ⟨_,h0'⟩ | ⟨g,b,j,rfl,q,hg,hn,hm,hc,hx⟩
    · omega
    · have hr:Row w g 4 j.toList:=by unfold Row;simpa using hg
      have hx':j.toList.take bs.length=bs.map Value.bool:=by simpa using hx
      have D:bs.length≤j.toList.length:=by simp;omega
      refine (Qs1 bs.length g b j.toList w (by omega) hr D hl (fun t x ht I=>?_)).mono ?_
      · have e:=Bl (fun l:List Value=>l[t]?) hx'
        simp only [BE,if_pos ht,Bs] at e;rw [I] at e
        cases C:bs[t]? with
        | none=>rw [C] at e;simp at e
        | some y=>rw [C] at e;exact ⟨y,by simpa using e⟩
      · rintro e w' ⟨rfl,z,c,E,A,G⟩
        have hk:YK 4 w w':=Qbr (v:=.slice (some ⟨g,0,none⟩) bs.length b) m (by simpa [Value.ownBlock] using z)
        refine ⟨rfl,⟨by simp,.inr ⟨g,b,c.toArray,by simp,q,E,by simpa using hn,hm,by simp at A ⊢;omega,?_⟩⟩,
          (Bi base w).grown z hb (fun k hk=>by obtain rfl:=Bu hk;exact q),hk⟩
        simpa [hx'] using G
theorem QpS (oa:Option Addr) (n c:Nat) (w:World):Calls prog 223 #[.slice oa n c] w fun e w'=>e=.returned (.bool ((n:Int) != 32))∧w'=w:=by
  go_in
  go_wp2;go_ret;exact ⟨rfl,rfl⟩
theorem QiP (ls:List Bg) (v:Value) (N:Nat) (w:World) (h:Jz w N v ls) (hl:ls.length<2305843009213693952) :
    Calls prog 248 #[v,.func (.func 223) #[] #[]] w fun e w'=>w'=w∧∃ i:Int,e=.returned (Bb i)∧(0≤i↔∃ d∈ls,d.length≠32):=by
  obtain ⟨oa,ca,rfl,hca⟩:=h.shape;have HL:=hid h;clear h;generalize hn:ls.length=n at *;have HN:=hid hn;clear hn
  go_in
  go_wp2_with fail
  go_loopw [8] (fun s8 wr=>∃ k:Nat,k≤n∧s8=Bb (k:Int)∧wr=w∧Hid (∀ d∈ls.take k,d.length=32)) (fun s8 _=>n-(intOf s8).toNat)
  case atStart=>exact ⟨0,BF _,rfl,rfl,hid (by simp)⟩
  case round =>
    obtain ⟨k,hk,rfl,M,HR⟩:=hrel;subst M
    by_cases E:k<n
    · have hlt':(k:Int)<(n:Int):=by omega
      have D:Jz wr N (.slice oa ls.length ca) ls:=by rw [HN.out];exact HL.out
      obtain ⟨b,o,rfl,hc⟩:=D.some (by rw [HN.out];omega)
      obtain ⟨hbN,x,hx,A⟩:=hc k (by rw [HN.out];exact E)
      obtain ⟨od,cd,rfl,_⟩:=A.shape;obtain ⟨d,hd⟩:∃ d,ls.getD k []=d:=⟨_,rfl⟩;have C:ls[k]?=some d:=by rw [← hd];exact getD_some _ _ _ (by rw [HN.out];exact E)
      rw [hd] at hx;have z:=hid C;have HF:=hid (QpS od d.length cd wr);clear D hc A hd C
      by_cases m:d.length=32
      · have e2:((d.length:Int) != 32)=false:=by simp;omega
        rw [e2] at HF
        have I:=hid (show ∀ d'∈ls.take (k+1),d'.length=32 from fun d' j=>by
          rw [Dh,z.out] at j
          rcases Bw.1 j with j | j
          · exact HR.out d' j
          · obtain rfl:d'=d:=by simpa using j
            exact m)
        clear e2 m
        go_wp2_with fail
        refine HF.out.mono ?_;rintro e w5 ⟨rfl,q⟩;obtain rfl:=q.symm
        go_wp2_with fail
        exact ⟨⟨k+1,by omega,by go_num,by trivial,I⟩,by simp [intOf];omega⟩
      · have e2:((d.length:Int) != 32)=true:=by simp;omega
        rw [e2] at HF;have G:=hid m;clear e2 m
        go_wp2_with fail
        refine HF.out.mono ?_;rintro e w5 ⟨rfl,q⟩;obtain rfl:=q.symm;go_wp2;go_ret;exact ⟨rfl,_,rfl,fun _=>⟨d,Bn z.out,G.out⟩,fun _=>by omega⟩
    · have hge:decide ((k:Int)<(n:Int))=false:=by simp;omega
      go_wp2;go_ret;refine ⟨rfl,_,rfl,fun h=>absurd h (by decide),?_⟩
      rintro ⟨d,hd,L⟩;exact absurd (HR.out d (by rw [BA (by rw [HN.out];omega)];exact hd)) L
theorem Qkz (ls:List Bg) (v:Value) (N:Nat) (w:World) (h:Jz w N v ls) (hl:ls.length<2305843009213693952) :
    Calls prog 222 #[v,.func (.func 223) #[] #[]] w fun e w'=>w'=w∧∃ b,e=.returned (.bool b)∧(b=true↔∃ d∈ls,d.length≠32):=by
  have HI:=hid (QiP ls v N w h hl);obtain ⟨oa,ca,rfl,hca⟩:=h.shape;clear h
  go_in
  go_wp2_with fail
  refine HI.out.mono ?_;rintro e w5 ⟨m,i,rfl,hi⟩;obtain rfl:=m.symm;have j:=hid hi;clear hi;go_wp2;go_ret;refine ⟨rfl,_,rfl,?_⟩;rw [D2];exact j.out
end Go.Proofs.YtnedafiokmjkkaaGreatDoor
