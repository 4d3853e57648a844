/- A region that draws its order, operation by operation in the. -/
import Derived.Test.YtnedafiokmjkkaaGreatDoorsaMemB
namespace Go.Proofs.YtnedafiokmjkkaaGreatDoor
section
variable {P:Program} {ops:Array Oper} {md:Region.Mode}
def QcD (s:Array Bool):Nat:=s.toList.count false
theorem Qdy (s:Array Bool) (i:Nat) (h:s.getD i true=false):QcD (s.setIfInBounds i true)+1=QcD s:=by
 have hi:i<s.size:=by grind
 have hv:s[i]=false:=by simp_all
 unfold QcD;rw [Array.toList_setIfInBounds,List.count_set (by simpa using hi)]
 have h1:s.toList[i]'(by simpa using hi)=false:=by assumption
 have h2:0<s.toList.count false:=List.count_pos_iff.2 (by rw [← h1];exact List.getElem_mem _)
 rw [h1,if_pos (by rfl),if_neg (by decide)]
 omega
theorem QoI {Q:Exit→Act→World→Prop} (b:Array Bool→Act→World→Prop)
  (j:∀ s a w,b s a w→∀ i∈Region.ready md ops s,wpOp P ops Q i (b (s.setIfInBounds i true)) a w)
  (e:∀ s a w,b s a w→Region.ready md ops s=[]→Q .normal a w) :
  ∀ (f:Nat) (s:Array Bool) (a:Act) (w:World),QcD s≤f→b s a w→wpAny P md ops Q f s a w
 | 0,s,a,w,hf,h=>by
  have hr:Region.ready md ops s=[]:=by
   cases hr:Region.ready md ops s with
   | nil=>rfl
   | cons i r =>
    have hm:i∈Region.ready md ops s:=by simp_all
    have:=Qdy s i (BY.1 hm).1;omega
  exact ⟨hr,e s a w h hr⟩
 | f+1,s,a,w,hf,h=>by
  refine ⟨fun hr=>e s a w h hr,fun i hi=>CA (fun a' w' h'=>?_) (j s a w h i hi)⟩
  have:=Qdy s i (BY.1 hi).1;exact QoI b j e f _ a' w' (by omega) h'
theorem Qbb {id:Nat} {Q:Exit→Act→World→Prop} {a:Act} {w:World} (hm:P.follows .mixedOrders=true) (b:Array Bool→Act→World→Prop)
  (h0:b (Array.replicate ops.size false) a w.drew)
  (e:∀ s a w,b s a w→∀ i∈Region.ready .any ops s,wpOp P ops Q i (b (s.setIfInBounds i true)) a w)
  (j:∀ s a w,b s a w→Region.ready .any ops s=[]→Q .normal a w):(Code.region id ops true).wp P Q a w :=
 wp_region_any hm (QoI b e j _ _ _ _ (by simp [QcD]) h0)
end
open Go.RowKit
def QaF (id:Nat):Code→Option (Array Oper)
 | .region i ops _=>if i=id then some ops else none
 | .block _ c=>QaF id c
 | .seq a b=>match QaF id a with
  | some c=>some c
  | none=>QaF id b
 | .loop c=>QaF id c
 | .scope c=>QaF id c
 | .cond _ a b=>match QaF id a with
  | some c=>some c
  | none=>QaF id b
 | _=>none
theorem Qb {P:Program} {b:Array Oper} {Q:Exit→Act→World→Prop} {i:Nat} {o:Oper} {K:Act→World→Prop} {a:Act} {w:World} (ho:b[i]?=some o) (hg:o.guard=none) (h:o.wp P a w K Q):wpOp P b Q i K a w:=by
 unfold wpOp;rw [ho];have:Region.wanted o (yielded b a.tmps)=true:=by simp [Region.wanted,hg]
 simp only [this];exact .inl h
def Qn (σ:Nat→Value) (i:Nat) (v:Value):Nat→Value:=fun j=>if j=i then v else σ j
section
variable (P:Program) (ops:Array Oper) (Q:Exit→Act→World→Prop) (fr:(Nat→Value)→Array Value) (G:Nat→Value→World→Prop) (R:World→World→Prop) (J:World→Prop)
def QK (i:Nat) (σ:Nat→Value) (w:World) (a':Act) (w':World):Prop:=∃ v,a'=⟨fr (Qn σ i v),[]⟩∧R w w'∧J w'∧G i v w'
def ZC:Nat→List Oper→Prop
 | _,[]=>True
 | i,o :: l=>(∀ (σ:Nat→Value) (w:World),J w→(∀ e∈o.after,Region.binds .any e=true→G e.on (σ e.on) w)→wpOp P ops Q i (QK fr G R J i σ w) ⟨fr σ,[]⟩ w)∧ZC (i+1) l
end
theorem ZC.get {P:Program} {b:Array Oper} {Q:Exit→Act→World→Prop} {fr:(Nat→Value)→Array Value} {G:Nat→Value→World→Prop} {R:World→World→Prop} {J:World→Prop} :
  ∀ (l:List Oper) (k i:Nat) (o:Oper),ZC P b Q fr G R J k l→l[i]?=some o→∀ (σ:Nat→Value) (w:World),J w→(∀ e∈o.after,Region.binds .any e=true→G e.on (σ e.on) w)→wpOp P b Q (k+i) (QK fr G R J (k+i) σ w) ⟨fr σ,[]⟩ w
 | [],_,_,_,_,h=>by simp at h
 | x :: l,k,i,o,hs,h=>by
  cases i with
  | zero =>
   obtain rfl:x=o:=by simpa using h
   exact hs.1
  | succ i =>
   have:=ZC.get l (k+1) i o hs.2 (by simpa using h)
   rw [show k+(i+1)=k+1+i by omega]
   exact this
def Zh:Nat→List Oper→Bool
 | _,[]=>true
 | i,o :: l=>o.after.toList.all (fun e=>!Region.binds .any e || decide (e.on<i)) && Zh (i+1) l
theorem QS:∀ (l:List Oper) (k i:Nat) (o:Oper),Zh k l=true→l[i]?=some o→∀ e∈o.after,Region.binds .any e=true→e.on<k+i
 | [],_,_,_,_,h=>by simp at h
 | x :: l,k,i,o,hs,h=>by
  unfold Zh at hs;rw [BX] at hs
  cases i with
  | zero =>
   obtain rfl:x=o:=by simpa using h
   intro e he hb;have:=CV.1 hs.1 e (Array.mem_toList_iff.2 he);simpa [hb] using this
  | succ i =>
   have:=QS l (k+1) i o hs.2 (by simpa using h)
   rw [show k+(i+1)=k+1+i by omega]
   exact this
theorem Qfb {P:Program} {id:Nat} {Q:Exit→Act→World→Prop} {w:World} {l:List Oper} {a0:Act} (hm:P.follows .mixedOrders=true) (fr:(Nat→Value)→Array Value) (σ0:Nat→Value) (h0:a0=⟨fr σ0,[]⟩)
  (G:Nat→Value→World→Prop) (R:World→World→Prop) (J:World→Prop) (hJ:J w.drew) (m:∀ i v w w',R w w'→G i v w→G i v w') (L:Zh 0 l=true)
  (q:ZC P l.toArray Q fr G R J 0 l)
  (C:∀ (σ:Nat→Value) (w':World),J w'→(∀ i,i<l.length→G i (σ i) w')→Q .normal ⟨fr σ,[]⟩ w'):(Code.region id l.toArray true).wp P Q a0 w:=by
 subst h0;refine Qbb hm (fun s a w'=>∃ σ,s.size=l.length∧a=⟨fr σ,[]⟩∧J w'∧∀ i,s.getD i false=true→G i (σ i) w') ?_ ?_ ?_
 ·exact ⟨σ0,by simp,rfl,hJ,fun i hi=>by rw [Ca] at hi;cases hi⟩
 ·rintro s a w' ⟨σ,hs,rfl,hj,hg⟩ i hi
  obtain ⟨hun,o,ho,A⟩:=BY.1 hi;have ho':l[i]?=some o:=by simp_all
  have E:=ZC.get l 0 i o q ho' σ w' hj (fun e he hb=>hg _ (A e he hb))
  rw [Bq] at E;refine CA ?_ E;rintro a2 w2 ⟨v,rfl,hr,S,M⟩;refine ⟨Qn σ i v,by simpa using hs,rfl,S,fun j D=>?_⟩
  by_cases e:j=i
  ·subst e
   simpa [Qn] using M
  ·have T:s.getD j false=true:=by
    rw [BM false (Ne.symm e)] at D;exact D
   rw [show Qn σ i v j=σ j by simp [Qn,e]]
   exact m j _ w' w2 hr (hg j T)
 ·rintro s a w' ⟨σ,hs,rfl,hj,hg⟩ hr
  refine C σ w' hj fun i hi=>hg i ?_
  have I:∀ n i,i<n→i<l.length→s.getD i false=true:=by
   intro n
   induction n with
   | zero=>intro i h;omega
   | succ n ih =>
    intro i hin O
    cases hb:s.getD i false with
    | true=>rfl
    | false =>
     have ho:l[i]?=some l[i]:=Bk O;have b:=QS l 0 i _ L ho;have:i∈Region.ready .any l.toArray s:=BY.2 ⟨getD_in (by omega) hb,l[i],by simp,fun e he z=>ih _ (by have:=b e he z;omega) (by have:=b e he z;omega)⟩
     rw [hr] at this
     cases this
  exact I (i+1) i (by omega) hi
theorem ZM {P:Program} {id:Nat} {Q:Exit→Act→World→Prop} {w:World} {l:List Oper} {a0:Act} (hm:P.follows .mixedOrders=true) (fr:(Nat→Value)→Array Value) (σ0:Nat→Value) (h0:a0=⟨fr σ0,[]⟩)
  (G:Nat→Value→World→Prop) (e:∀ i v w w',Bd w w'→G i v w→G i v w') (q:Zh 0 l=true)
  (j:ZC P l.toArray Q fr G (fun a b=>Bd a b) (fun a=>Bd w a) 0 l)
  (m:∀ (σ:Nat→Value) (w':World),Bd w w'→(∀ i,i<l.length→G i (σ i) w')→Q .normal ⟨fr σ,[]⟩ w'):(Code.region id l.toArray true).wp P Q a0 w :=
 Qfb hm fr σ0 h0 G _ _ ((Bi _ _).drew) e q j m
theorem QK.mk {fr:(Nat→Value)→Array Value} {G:Nat→Value→World→Prop} {i:Nat} {σ:Nat→Value} {w0 w w':World} {a':Act} (v:Value) (ha:a'=⟨fr (Qn σ i v),[]⟩) (hb:Bd w w') (hj:Bd w0 w) (hg:G i v w') :
  QK fr G (fun a b=>Bd a b) (fun a=>Bd w0 a) i σ w a' w':=⟨v,ha,hb,hj.trans (hb.mono hj.size),hg⟩
theorem QK.mk0 {fr:(Nat→Value)→Array Value} {G:Nat→Value→World→Prop} {i:Nat} {σ:Nat→Value} {w0 w:World} {a':Act} (v:Value) (ha:a'=⟨fr (Qn σ i v),[]⟩) (hj:Bd w0 w) (hg:G i v w) :
  QK fr G (fun a b=>Bd a b) (fun a=>Bd w0 a) i σ w a' w:=⟨v,ha,Bi _ _,hj,hg⟩
theorem Qqh {s:Array Bool} {n:Nat} (h:∀ t,n≤t→t<s.size→s.getD t true=false):s.size-n≤QcD s:=by
 unfold QcD;have e:s.toList=s.toList.take n ++ s.toList.drop n:=(CS n s.toList).symm;rw [e,List.count_append]
 have:(s.toList.drop n).count false=(s.toList.drop n).length:=by
  rw [List.count_eq_length];intro b hb;obtain ⟨i,hi,rfl⟩:=Dw hb;have hi':n+i<s.size:=by grind
  have:=h (n+i) (by omega) hi'
  simp [hi'] at this;simp [this]
 rw [this];simp
theorem Qqg {s:Array Bool} {n:Nat} (h:∀ i,i<n→s.getD i true=true):QcD s≤s.size-n:=by
 unfold QcD;have e:s.toList=s.toList.take n ++ s.toList.drop n:=(CS n s.toList).symm;rw [e,List.count_append]
 have:(s.toList.take n).count false=0:=by
  rw [List.count_eq_zero];intro hb;obtain ⟨i,hi,he⟩:=Dw hb;have hi':i<s.size:=by grind
  have b:i<n:=by grind
  have:=h i b;simp [hi'] at this;simp [this] at he
 rw [this,Bq];refine Bh List.count_le_length ?_;simp
section
variable {P:Program} {ops:Array Oper}
theorem QgX {Q:Exit→Act→World→Prop} {n:Nat} (q:Array Bool→Act→World→Prop) (hs:Qfh .any ops 0 n=true) (hc:Region.chainB .any ops n=true) (hn:n<ops.size)
  (G:∀ i o,ops[i]?=some o→∀ e∈o.after,Region.binds .any e=true→e.on<i)
  (A:∀ s a w,q s a w→∀ i∈Region.ready .any ops s,i<n→wpOp P ops Q i (q (s.setIfInBounds i true)) a w)
  (hgo:∀ s a w,HeadInv .any ops n s→q s a w→(∀ i,i<n→s.getD i true=true)→wpAny P .any ops Q (ops.size-n) s a w) :
  ∀ (f:Nat) (s:Array Bool) (a:Act) (w:World),QcD s=f+(ops.size-n)→HeadInv .any ops n s→q s a w→wpAny P .any ops Q (f+(ops.size-n)) s a w
 | 0,s,a,w,hf,hi,h=>by
  rw [Bq];refine hgo s a w hi h fun i b=>?_
  cases hb:s.getD i true with
  | true=>rfl
  | false =>
   have h1:=Qdy s i hb
   have h2:=Qqh (s:=s.setIfInBounds i true) (n:=n) (fun t ht T=>by
    rw [BM true (by omega)]
    exact hi.tail t ht (by rw [← hi.size];simpa using T))
   have h3:=hi.size;simp only [Er] at h2;omega
 | f+1,s,a,w,hf,hi,h=>by
  have z:∃ i,i<n∧s.getD i true=false:=by
   refine Classical.byContradiction fun S=>?_
   have h1:=Qqg (s:=s) (n:=n) (fun i b=>by
    cases hb:s.getD i true with
    | true=>rfl
    | false=>exact absurd ⟨i,b,hb⟩ S)
   have h3:=hi.size;omega
  have E:∀ j∈Region.ready .any ops s,j<n:=fun j hj=>by
   refine Nat.lt_of_not_le fun O=>?_
   obtain ⟨i,b,hb⟩:=z;exact Qoy hs hc hn hi _ i rfl (by omega) b hb j O hj
  rw [show f+1+(ops.size-n)=(f+(ops.size-n))+1 by omega]
  refine ⟨fun hr=>?_,fun i C=>?_⟩
  ·exfalso
   have M:∀ m i,i<m→i<n→s.getD i false=true:=by
    intro m
    induction m with
    | zero=>intro i h;omega
    | succ m ih =>
     intro i him b
     cases hb:s.getD i false with
     | true=>rfl
     | false =>
      have L:i<ops.size:=by omega
      have ho:ops[i]?=some ops[i]:=Array.getElem?_eq_getElem L;have D:=G i _ ho;have:i∈Region.ready .any ops s:=BY.2 ⟨getD_in (by rw [hi.size];exact L) hb,_,ho,fun e he I=>ih _ (by have:=D e he I;omega) (by have:=D e he I;omega)⟩
      rw [hr] at this
      cases this
   obtain ⟨i,b,hb⟩:=z;have:=M (i+1) i (by omega) b
   rw [getD_both hb] at this
   cases this
  ·have b:=E i C
   refine CA (fun a' w' h'=>?_) (A s a w h i C b)
   have h1:=Qdy s i (BY.1 C).1;exact QgX q hs hc hn G A hgo f _ a' w' (by omega) (hi.set C b) h'
end
def Qo8 (l:List Oper) (n:Nat):Bool :=
 decide (n<l.toArray.size) && (Qfh .any l.toArray 0 n && (Region.chainB .any l.toArray n && (Zh 0 l && Region.seqB .any l.toArray (l.toArray.size-n) n (List.replicate n true ++ List.replicate (l.toArray.size-n) false).toArray)))
section
variable (P:Program) (ops:Array Oper) (Q:Exit→Act→World→Prop) (fr:(Nat→Value)→Array Value) (J:(Nat→Bool)→(Nat→Value)→World→Prop)
end
abbrev Qag:=Value→World→Prop
def Ql:Array Value→List Oper→Nat→(Nat→Value)→Array Value
 | t,[],_,_=>t
 | t,o :: l,k,σ=>Ql (match o.dst with | some d=>t.setIfInBounds d (σ k) | none=>t) l (k+1) σ
def Qd8:List Oper→Bool
 | []=>true
 | o :: l=>(match o.dst with | some d=>l.all (fun p=>p.dst != some d) | none=>true) && Qd8 l
theorem Qd0:∀ (l:List Oper) (t:Array Value) (k:Nat) (σ τ:Nat→Value),(∀ j,k≤j→σ j=τ j)→Ql t l k σ=Ql t l k τ
 | [],_,_,_,_,_=>rfl
 | o :: l,t,k,σ,τ,h=>by
  unfold Ql;rw [h k (Bj _)];exact Qd0 l _ (k+1) σ τ fun j hj=>h j (by omega)
theorem Qfi {d:Nat} {v:Value}:∀ (l:List Oper) (t:Array Value) (k:Nat) (σ:Nat→Value),l.all (fun p=>p.dst != some d)=true→(Ql t l k σ).setIfInBounds d v=Ql (t.setIfInBounds d v) l k σ
 | [],_,_,_,_=>rfl
 | o :: l,t,k,σ,h=>by
  rw [List.all_cons,BX] at h;unfold Ql;rw [Qfi l _ _ _ h.2]
  cases ho:o.dst with
  | none=>rfl
  | some e =>
   have b:e≠d:=fun e'=>by subst e';simp [ho] at h
   rw [Array.setIfInBounds_comm _ _ b]
theorem Qat:∀ (l:List Oper) (t:Array Value) (k i:Nat) (o:Oper) (σ:Nat→Value) (v:Value),Qd8 l=true→l[i]?=some o→(Act.put ⟨Ql t l k σ,[]⟩ o.dst v)=⟨Ql t l k (Qn σ (k+i) v),[]⟩
 | [],_,_,_,_,_,_,_,h=>by simp at h
 | p :: l,t,k,i,o,σ,v,ha,h=>by
  unfold Qd8 at ha;rw [BX] at ha
  cases i with
  | zero =>
   obtain rfl:p=o:=by simpa using h
   unfold Ql;have e1:∀ t',Ql t' l (k+1) (Qn σ (k+0) v)=Ql t' l (k+1) σ:=fun t'=>Qd0 l t' (k+1) _ _ fun j hj=>by unfold Qn;rw [if_neg (by omega)]
   rw [e1]
   cases hp:p.dst with
   | none=>rfl
   | some d =>
    rw [hp] at ha;simp only [Act.put];rw [Qfi l _ _ _ ha.1,Array.setIfInBounds_setIfInBounds];simp [Qn]
  | succ i =>
   have:=Qat l (match p.dst with | some d=>t.setIfInBounds d (σ k) | none=>t) (k+1) i o σ v ha.2 (by simpa using h)
   unfold Ql;rw [this,show k+1+i=k+(i+1) by omega]
   have e2:Qn σ (k+(i+1)) v k=σ k:=by unfold Qn;rw [if_neg (by omega)]
   rw [e2]
theorem Zl:∀ (l:List Oper) (t:Array Value) (k:Nat) (σ:Nat→Value),(∀ j o d,l[j]?=some o→o.dst=some d→σ (k+j)=t.getD d undef)→Ql t l k σ=t
 | [],_,_,_,_=>rfl
 | o :: l,t,k,σ,h=>by
  have e:(match o.dst with | some d=>t.setIfInBounds d (σ k) | none=>t)=t:=by
   cases ho:o.dst with
   | none=>rfl
   | some d =>
    have:=h 0 o d rfl ho;simp only;rw [BK] at this;rw [this];apply Array.ext_getElem?;intro i;rw [Array.getElem?_setIfInBounds]
    split
    ·rename_i e;subst e
     split
     ·rename_i b;simp [b]
     ·rename_i b;simp [Array.getElem?_eq_none (Nat.not_lt.1 b)]
    ·rfl
  unfold Ql;rw [e];exact Zl l t (k+1) σ fun j p d hj hp=>by rw [show k+1+j=k+(j+1) by omega];exact h (j+1) p d (by simpa using hj) hp
section
variable (P:Program) (ops:Array Oper) (Q:Exit→Act→World→Prop) (fr:(Nat→Value)→Array Value) (w:World) (C:World→Prop) (t:Array Value) (tl:List Oper)
def Qc (i:Nat):List Oper→Nat→(Nat→Value)→Prop
 | [],_,_=>True
 | o :: l,j,σ=>(if (o.after.any fun e=>Region.binds .any e && e.on == i)=true then (match o.dst with | some d=>σ j=t.getD d undef | none=>True) else True)∧Qc i l (j+1) σ
def Has (F:List Qag) (es:Array Edge) (k:Nat) (l:List Oper) (σ:Nat→Value) (W:World):Prop:=(∀ e∈es,Region.binds .any e=true→(F.getD e.on (fun _ _=>True)) (σ e.on) W)∧Qc t k l (k+1) σ
def Yq (G:Qag):Prop:=∀ v W W',Bd W W'→G v W→G v W'
def QtI (o:Oper) (k:Nat) (a:Act) (W:World) (G:Qag):Prop:=ops[k]?=some o→wpOp P ops Q k (fun a' W'=>∃ v,a'=a.put o.dst v∧Bd W W'∧G v W') a W
def JE:List Qag→Nat→(Nat→Value)→World→Prop
 | [],_,_,_=>True
 | G :: F,k,σ,W=>G (σ k) W∧JE F (k+1) σ W
def RK:Nat→List Qag→List Oper→Prop
 | _,F,[]=>∀ σ W,Bd w W→C W→JE F 0 σ W→wpList P ops Q tl ⟨fr σ,[]⟩ W
 | k,F,o :: l=>∃ G,Yq G∧(∀ σ W,Bd w W→C W→Has t F o.after k l σ W→QtI P ops Q o k ⟨fr σ,[]⟩ W G)∧RK (k+1) (F ++ [G]) l
end
theorem QeE:∀ (F:List Qag) (k:Nat) (σ:Nat→Value) (W:World),(∀ i,i<F.length→(F.getD i (fun _ _=>True)) (σ (k+i)) W)→JE F k σ W
 | [],_,_,_,_=>trivial
 | G :: F,k,σ,W,h=>⟨by simpa using h 0 (by simp),QeE F (k+1) σ W fun i hi=>by have:=h (i+1) (by simpa using hi);rw [show k+1+i=k+(i+1) by omega];simpa using this⟩
theorem Qc0 {t:Array Value} {i:Nat} {σ:Nat→Value}:∀ (l:List Oper) (j:Nat),(∀ q o d,l[q]?=some o→o.dst=some d→(∃ e∈o.after,Region.binds .any e=true∧e.on=i)→σ (j+q)=t.getD d undef)→Qc t i l j σ
 | [],_,_=>trivial
 | o :: l,j,h=>by
  refine ⟨?_,Qc0 l (j+1) fun q p d hq hd he=>by rw [show j+1+q=j+(q+1) by omega];exact h (q+1) p d (by simpa using hq) hd he⟩
  split
  ·rename_i ha
   split
   ·rename_i d hd
    obtain ⟨n,hn,hp⟩:=Array.any_eq_true.1 ha;rw [BX,beq_iff_eq] at hp;exact h 0 o d rfl hd ⟨_,Array.getElem_mem hn,hp⟩
   ·trivial
  ·trivial
variable {P:Program} {ops:Array Oper} {Q:Exit→Act→World→Prop} {fr:(Nat→Value)→Array Value} {w:World} {C:World→Prop} {t:Array Value} {tl:List Oper} {F:List Qag} {k:Nat} {o:Oper} {l:List Oper}
theorem RK.facts:∀ (l:List Oper) (k:Nat) (F:List Qag),RK P ops Q fr w C t tl k F l→F.length=k→(∀ G∈F,Yq G)→∃ Fs,Fs.length=k+l.length∧(∀ G∈Fs,Yq G)∧(∀ i,i<k→Fs[i]?=F[i]?) ∧
  (∀ i o,l[i]?=some o→∀ σ W,Bd w W→C W→Has t (Fs.take (k+i)) o.after (k+i) (l.drop (i+1)) σ W→QtI P ops Q o (k+i) ⟨fr σ,[]⟩ W (Fs.getD (k+i) (fun _ _=>True))) ∧
  ∀ σ W,Bd w W→C W→JE Fs 0 σ W→wpList P ops Q tl ⟨fr σ,[]⟩ W
 | [],k,F,h,hk,hs=>⟨F,by simpa using hk,hs,fun _ _=>rfl,fun i o h=>by simp at h,h⟩
 | o :: l,k,F,h,hk,hs=>by
  obtain ⟨G,h1,h2,h3⟩:=h
  obtain ⟨Fs,e1,e2,e3,e4,e5⟩:=RK.facts l (k+1) (F ++ [G]) h3 (by simp [hk]) (fun H hH=>by
   rcases Bw.1 hH with h | h
   ·grind
   ·obtain rfl:=BQ.1 h;exact h1)
  have eF:Fs.take k=F:=by
   apply CP;intro i;rw [BE]
   split
   ·grind
   ·grind
  refine ⟨Fs,by simp at e1 ⊢;omega,e2,fun i hi=>by rw [e3 i (by omega),Cw (by omega)],fun i p hp=>?_,e5⟩
  cases i with
  | zero =>
   obtain rfl:o=p:=by simp_all
   intro σ W hb hc hh;rw [BK,eF] at hh;have:Fs.getD (k+0) (fun _ _=>True)=G:=by simp_all
   rw [this];exact h2 σ W hb hc hh
  | succ i =>
   have:=e4 i p (by simpa using hp)
   rw [show k+1+i=k+(i+1) by omega] at this
   exact this
theorem QJ {id:Nat} (hm:P.follows .mixedOrders=true) (hC:∀ W,Bd w W→C W) (A:(Zh 0 l && Qd8 l)=true) (L:∀ σ,Ql t l 0 σ=fr σ) (h:RK P l.toArray Q fr w C t [] 0 [] l):(Code.region id l.toArray true).wp P Q ⟨t,[]⟩ w:=by
 rw [BX] at A;obtain ⟨Fs,e1,e2,-,e4,e5⟩:=RK.facts l 0 [] h rfl (by simp)
 have aB:∀ i,Yq (Fs.getD i (fun _ _=>True)):=fun i=>by
  rw [CB]
  cases hi:Fs[i]? with
  | none=>exact fun _ _ _ _ _=>trivial
  | some G=>exact e2 G (Bn hi)
 have h0:∀ s:Array Bool,∀ i,s.getD i false=true∨s.getD i false=false:=fun s i=>by cases s.getD i false <;> simp
 refine Qbb hm (fun s a W=>∃ σ,s.size=l.length∧a=⟨fr σ,[]⟩∧Bd w W∧(∀ i,s.getD i false=true→(Fs.getD i (fun _ _=>True)) (σ i) W)∧(∀ i o d,l[i]?=some o→o.dst=some d→s.getD i false=false→σ i=t.getD d undef)∧∀ i o,l[i]?=some o→s.getD i false=true→∀ e∈o.after,Region.binds .any e=true→s.getD e.on false=true) ?_ ?_ ?_
 ·refine ⟨fun i=>t.getD (((l[i]?).bind (·.dst)).getD 0) undef,by simp,?_,(Bi _ _).drew,(fun i hi=>by rw [Ca] at hi;cases hi),(fun i o d hi hd _=>by simp [hi,hd]),(fun i o _ hi=>by rw [Ca] at hi;cases hi)⟩
  rw [← L,Zl];intro j o d hj ho;simp [hj,ho]
 ·rintro s a W ⟨σ,hs,rfl,hb,hg,hu,hd⟩ i hi
  obtain ⟨hun,o,ho,I⟩:=BY.1 hi;have ho':l[i]?=some o:=by simp_all
  have m:i<s.size:=by grind
  have aC:s.getD i false=false:=by simp_all
  have:=e4 i o ho' σ W hb (hC W hb) ⟨fun e he b=>by
   have Y:=QS l 0 i o A.1 ho' e he b;have:=hg _ (I e he b);rw [CB,BE,if_pos Y,← CB]
   exact this,Qc0 _ _ fun q p d hq M he=>?_⟩ (by simpa using ho')
  ·rw [Bq] at this
   refine CA ?_ this;rintro a' W' ⟨v,rfl,h1,h2⟩;refine ⟨Qn σ i v,by simpa using hs,?_,hb.trans (h1.mono hb.size),fun j z=>?_,fun j p d hj M D=>?_,fun j p hj z e he b=>?_⟩
   ·have:=Qat l t 0 i o σ v A.2 ho'
    rw [Bq] at this;rw [← L,← L,this]
   ·by_cases e:j=i
    ·subst e
     simpa [Qn] using h2
    ·have T:s.getD j false=true:=by
      rw [BM false (Ne.symm e)] at z;exact z
     rw [show Qn σ i v j=σ j by simp [Qn,e]]
     exact aB j _ _ _ h1 (hg j T)
   ·by_cases e:j=i
    ·subst e
     rw [C6,Dj m] at D
     cases D
    ·rw [BM false (Ne.symm e)] at D
     rw [show Qn σ i v j=σ j by simp [Qn,e]]
     exact hu j p d hj M D
   ·have key:s.getD e.on false=true:=by
     by_cases e':j=i
     ·subst e'
      obtain rfl:o=p:=by rw [ho'] at hj;exact Bu hj
      exact I e he b
     ·rw [BM false (Ne.symm e')] at z
      exact hd j p hj z e he b
    by_cases e':e.on=i
    ·rw [e',C6,Dj m]
     rfl
    ·rw [BM false (Ne.symm e')]
     exact key
  ·rw [Bq] at he ⊢
   rw [Co] at hq;rw [show i+1+q=i+1+q from rfl];obtain ⟨e,S,b,aA⟩:=he
   rcases h0 s (i+1+q) with hj | hj
   ·have:=hd _ p hq hj e S b
    rw [aA,aC] at this
    cases this
   ·exact hu _ p d hq M hj
 ·rintro s a W ⟨σ,hs,rfl,hb,hg,-,-⟩ hr
  refine e5 σ W hb (hC W hb) (QeE _ _ _ _ fun i hi=>?_)
  rw [Bq];refine hg i ?_
  have O:∀ n i,i<n→i<l.length→s.getD i false=true:=by
   intro n
   induction n with
   | zero=>intro i h;omega
   | succ n ih =>
    intro i hin m
    cases hb:s.getD i false with
    | true=>rfl
    | false =>
     exfalso;have ho:l[i]?=some l[i]:=Bk m;have E:=QS l 0 i _ A.1 ho;have:i∈Region.ready .any l.toArray s:=BY.2 ⟨getD_in (by rw [hs];exact m) hb,l[i],by simp,fun e he b=>ih _ (by have:=E e he b;omega) (by have:=E e he b;omega)⟩
     rw [hr] at this
     cases this
  exact O (i+1) i (by omega) (by omega)
theorem JT {id:Nat} (n:Nat) (hm:P.follows .mixedOrders=true) (hC:∀ W,Bd w W→C W) (hB:(Qo8 l n && Qd8 (l.take n))=true) (L:∀ σ,Ql t (l.take n) 0 σ=fr σ) (h:RK P l.toArray Q fr w C t (l.drop n) 0 [] (l.take n)):(Code.region id l.toArray true).wp P Q ⟨t,[]⟩ w:=by
 rw [BX] at hB;obtain ⟨hB,aF⟩:=hB;simp only [Qo8,BX,BR] at hB;obtain ⟨hn,hs,hc,aA,aC⟩:=hB;have hsz:l.toArray.size=l.length:=by simp
 have aI:(l.take n).length=n:=by simp;simp at hn;omega
 have z:∀ i o,i<n→l[i]?=some o→(l.take n)[i]?=some o:=fun i o hi ho=>by rw [BE,if_pos hi];exact ho
 obtain ⟨Fs,e1,e2,-,e4,e5⟩:=RK.facts (l.take n) 0 [] h rfl (by simp)
 rw [aI] at e1
 have aL:∀ i,Yq (Fs.getD i (fun _ _=>True)):=fun i=>by
  rw [CB]
  cases hi:Fs[i]? with
  | none=>exact fun _ _ _ _ _=>trivial
  | some G=>exact e2 G (Bn hi)
 refine wp_region_any hm ?_
 have aE:HeadInv .any l.toArray n (Array.replicate l.toArray.size false) :=
  ⟨by simp,fun j oj _ hx=>(by rw [Ca] at hx;cases hx),fun t _ ht=>getD_in (by simpa using ht) (Ca _ _)⟩
 have K:=QgX (P:=P) (Q:=Q) (n:=n) (fun s a W=>∃ σ,s.size=l.length∧a=⟨fr σ,[]⟩∧Bd w W∧(∀ i,i<n→s.getD i false=true→(Fs.getD i (fun _ _=>True)) (σ i) W)∧(∀ i o d,i<n→l[i]?=some o→o.dst=some d→s.getD i false=false→σ i=t.getD d undef)∧∀ i o,l[i]?=some o→s.getD i false=true→∀ e∈o.after,Region.binds .any e=true→s.getD e.on false=true) hs hc hn
  (fun i o ho e he hb=>by have:=QS l 0 i o aA (by simpa using ho) e he hb;omega)
  (by
   rintro s a W ⟨σ,Y,rfl,hb,hg,hu,hd⟩ i hi b;obtain ⟨aD,o,ho,I⟩:=BY.1 hi;have ho':l[i]?=some o:=by simpa using ho
   have M:i<s.size:=by rw [Y];exact (Bm.1 ho').1
   have aM:s.getD i false=false:=by
    rw [C6,Array.getElem?_eq_getElem M] at aD ⊢;exact aD
   have:=e4 i o (z i o b ho') σ W hb (hC W hb) ⟨fun e he m=>by
    have S:=QS l 0 i o aA ho' e he m;have:=hg _ (by omega) (I e he m)
    rw [CB,BE,if_pos S,← CB]
    exact this,Qc0 _ _ fun q p d hq T he=>?_⟩ (by simpa using ho')
   ·rw [Bq] at this
    refine CA ?_ this;rintro a' W' ⟨v,rfl,h1,h2⟩;refine ⟨Qn σ i v,by simpa using Y,?_,hb.trans (h1.mono hb.size),fun j O A=>?_,fun j p d O hj T D=>?_,fun j p hj A e he m=>?_⟩
    ·have:=Qat (l.take n) t 0 i o σ v aF (z i o b ho')
     rw [Bq] at this;rw [← L,← L,this]
    ·by_cases e:j=i
     ·subst e
      simpa [Qn] using h2
     ·have aH:s.getD j false=true:=by
       rw [BM false (Ne.symm e)] at A;exact A
      rw [show Qn σ i v j=σ j by simp [Qn,e]]
      exact aL j _ _ _ h1 (hg j O aH)
    ·by_cases e:j=i
     ·subst e
      rw [C6,Dj M] at D
      cases D
     ·rw [BM false (Ne.symm e)] at D
      rw [show Qn σ i v j=σ j by simp [Qn,e]]
      exact hu j p d O hj T D
    ·have key:s.getD e.on false=true:=by
      by_cases e':j=i
      ·subst e'
       obtain rfl:o=p:=by rw [ho'] at hj;exact Bu hj
       exact I e he m
      ·rw [BM false (Ne.symm e')] at A
       exact hd j p hj A e he m
     by_cases e':e.on=i
     ·rw [e',C6,Dj M]
      rfl
     ·rw [BM false (Ne.symm e')]
      exact key
   ·rw [Bq] at he ⊢
    rw [Co,BE] at hq
    split at hq
    ·rename_i aK
     obtain ⟨e,aG,m,aJ⟩:=he
     cases hj:s.getD (i+1+q) false with
     | true =>
      have:=hd _ p hq hj e aG m;rw [aJ,aM] at this
      cases this
     | false=>exact hu _ p d aK hq T hj
    ·cases hq)
  (by
   rintro s a W hi ⟨σ,Y,rfl,hb,hg,-,-⟩ E
   have he:s=(List.replicate n true ++ List.replicate (l.toArray.size-n) false).toArray:=by
    apply Array.ext
    ·simp;omega
    ·intro i h1 h2
     by_cases b:i<n
     ·have h3:=E i b
      simp [Array.getD,h1] at h3;rw [h3];simp [b]
     ·have h3:=hi.tail i (by omega) (by omega)
      simp [Array.getD,h1] at h3;rw [h3];simp [List.getElem_append,b]
   have aB:(l.drop n).length=l.toArray.size-n:=by simp
   have hw:=e5 σ W hb (hC W hb) (QeE _ _ _ _ fun i b=>by
    rw [Bq];refine hg i (by omega) ?_
    have h3:=E i (by omega)
    have S:i<s.size:=by omega
    simp [S] at h3 ⊢
    exact h3)
   have:=wpAny_of_seq (md:=.any) (Q':=Q) (l.drop n) n s ⟨fr σ,[]⟩ W (fun j=>by simp [List.getElem?_drop]) (by rw [aB,he];exact aC) hw
   rwa [aB] at this)
  n (Array.replicate l.toArray.size false) ⟨t,[]⟩ w.drew (by simp [QcD];omega) aE (by
   refine ⟨fun i=>t.getD ((((l.take n)[i]?).bind (·.dst)).getD 0) undef,by simp,?_,(Bi _ _).drew,(fun i _ hi=>by rw [Ca] at hi;cases hi),(fun i o d b hi hd _=>by show t.getD ((((l.take n)[i]?).bind (·.dst)).getD 0) undef=_;rw [z i o b hi];simp [hd]),(fun i o _ hi=>by rw [Ca] at hi;cases hi)⟩
   rw [← L,Zl];intro j o d hj ho;simp only [Bq,hj]
   simp [ho])
 rwa [show n+(l.toArray.size-n)=l.toArray.size by omega] at K
theorem Yq.eq (v:Value):Yq (fun X _=>X=v):=fun _ _ _ _ h=>h
theorem Qhm {a:Act} {W W':World} {v:Value} {G:Qag} (hw:Region.wanted o (yielded ops a.tmps)=true) (h:(execOp a.eval o).run P W=.ok (.value v) W') (hb:Bd W W') (hg:G v W'):QtI P ops Q o k a W G:=fun ho=>by
 unfold wpOp;rw [ho];simp only [hw];exact .inl (by unfold Oper.wp;rw [h];exact ⟨v,rfl,hb,hg⟩)
theorem Qdw {a:Act} {W:World} {f:FuncId} {b:Array Value} {G:Qag} (hw:Region.wanted o (yielded ops a.tmps)=true) (h:(execOp a.eval o).run P W=.ok (.enter f b) W) (hc:Calls P f b W fun e W'=>∃ v,e=.returned v∧Bd W W'∧G v W'):QtI P ops Q o k a W G:=fun ho=>by
 unfold wpOp;rw [ho];simp only [hw];refine .inl ?_;unfold Oper.wp;rw [h];refine hc.mono ?_;rintro e W' ⟨v,rfl,hb,hg⟩;exact ⟨v,rfl,hb,hg⟩
theorem JK {b:Array Oper} {t:Array Value} (hg:o.guard=none):Region.wanted o (yielded b t)=true:=by simp [Region.wanted,hg]
theorem RK.val {v:Value} (hg:o.guard=none) (h:∀ σ W,Bd w W→C W→Has t F o.after k l σ W→(execOp (Act.eval ⟨fr σ,[]⟩) o).run P W=.ok (.value v) W) (hn:RK P ops Q fr w C t tl (k+1) (F ++ [fun X _=>X=v]) l):RK P ops Q fr w C t tl k F (o :: l) :=
 ⟨_,Yq.eq v,fun σ W hb hc hh=>Qhm (JK hg) (h σ W hb hc hh) (Bi _ _) rfl,hn⟩
theorem RK.valW {v:Value} (h:∀ σ W,Bd w W→C W→Has t F o.after k l σ W→Region.wanted o (yielded ops (fr σ))=true∧(execOp (Act.eval ⟨fr σ,[]⟩) o).run P W=.ok (.value v) W) (hn:RK P ops Q fr w C t tl (k+1) (F ++ [fun X _=>X=v]) l):RK P ops Q fr w C t tl k F (o :: l) :=
 ⟨_,Yq.eq v,fun σ W hb hc hh=>Qhm (h σ W hb hc hh).1 (h σ W hb hc hh).2 (Bi _ _) rfl,hn⟩
theorem RK.pass (h:∀ σ W,Bd w W→C W→Has t F o.after k l σ W→Region.wanted o (yielded ops (fr σ))=false) (hn:RK P ops Q fr w C t tl (k+1) (F ++ [fun X _=>X=undef]) l):RK P ops Q fr w C t tl k F (o :: l) :=
 ⟨_,Yq.eq undef,fun σ W hb hc hh ho=>by
  unfold wpOp;rw [ho];simp only [h σ W hb hc hh]
  exact ⟨undef,rfl,Bi _ _,rfl⟩,hn⟩
theorem RK.callV {v:Value} {f:FuncId} {b:Array Value} (hg:o.guard=none) (h1:∀ σ W,Bd w W→C W→Has t F o.after k l σ W→(execOp (Act.eval ⟨fr σ,[]⟩) o).run P W=.ok (.enter f b) W) (h2:∀ W,Bd w W→C W→Calls P f b W fun e W'=>e=.returned v∧Bd W W') (hn:RK P ops Q fr w C t tl (k+1) (F ++ [fun X _=>X=v]) l):RK P ops Q fr w C t tl k F (o :: l) :=
 ⟨_,Yq.eq v,fun σ W hb hc hh=>by
  refine Qdw (JK hg) (h1 σ W hb hc hh) ((h2 W hb hc).mono ?_);rintro e W' ⟨rfl,j⟩
  exact ⟨v,rfl,j,rfl⟩,hn⟩
theorem RK.callW {v:Value} {f:FuncId} {b:Array Value} (h1:∀ σ W,Bd w W→C W→Has t F o.after k l σ W→Region.wanted o (yielded ops (fr σ))=true∧(execOp (Act.eval ⟨fr σ,[]⟩) o).run P W=.ok (.enter f b) W) (h2:∀ W,Bd w W→C W→Calls P f b W fun e W'=>e=.returned v∧Bd W W') (hn:RK P ops Q fr w C t tl (k+1) (F ++ [fun X _=>X=v]) l):RK P ops Q fr w C t tl k F (o :: l) :=
 ⟨_,Yq.eq v,fun σ W hb hc hh=>by
  refine Qdw (h1 σ W hb hc hh).1 (h1 σ W hb hc hh).2 ((h2 W hb hc).mono ?_);rintro e W' ⟨rfl,j⟩
  exact ⟨v,rfl,j,rfl⟩,hn⟩
theorem RK.callG (G:Qag) (hs:Yq G) (hg:o.guard=none) (h:∀ σ W,Bd w W→C W→Has t F o.after k l σ W→∃ f b,(execOp (Act.eval ⟨fr σ,[]⟩) o).run P W=.ok (.enter f b) W∧Calls P f b W fun e W'=>∃ v,e=.returned v∧Bd W W'∧G v W') (hn:RK P ops Q fr w C t tl (k+1) (F ++ [G]) l):RK P ops Q fr w C t tl k F (o :: l) :=
 ⟨G,hs,fun σ W hb hc hh=>by
  obtain ⟨f,b,h1,h2⟩:=h σ W hb hc hh
  exact Qdw (JK hg) h1 h2,hn⟩
theorem RK.callGW (G:Qag) (hs:Yq G) (h:∀ σ W,Bd w W→C W→Has t F o.after k l σ W→Region.wanted o (yielded ops (fr σ))=true∧∃ f b,(execOp (Act.eval ⟨fr σ,[]⟩) o).run P W=.ok (.enter f b) W∧Calls P f b W fun e W'=>∃ v,e=.returned v∧Bd W W'∧G v W') (hn:RK P ops Q fr w C t tl (k+1) (F ++ [G]) l):RK P ops Q fr w C t tl k F (o :: l) :=
 ⟨G,hs,fun σ W hb hc hh=>by
  obtain ⟨hw,f,b,h1,h2⟩:=h σ W hb hc hh
  exact Qdw hw h1 h2,hn⟩
theorem RK.new (G:Qag) (hs:Yq G) (hg:o.guard=none) (h:∀ σ W,Bd w W→C W→Has t F o.after k l σ W→∃ v W',(execOp (Act.eval ⟨fr σ,[]⟩) o).run P W=.ok (.value v) W'∧Bd W W'∧G v W') (hn:RK P ops Q fr w C t tl (k+1) (F ++ [G]) l):RK P ops Q fr w C t tl k F (o :: l) :=
 ⟨G,hs,fun σ W hb hc hh=>by
  obtain ⟨v,W',h1,h2,h3⟩:=h σ W hb hc hh
  exact Qhm (JK hg) h1 h2 h3,hn⟩
attribute [simp] Region.binds Qc
end Go.Proofs.YtnedafiokmjkkaaGreatDoor
