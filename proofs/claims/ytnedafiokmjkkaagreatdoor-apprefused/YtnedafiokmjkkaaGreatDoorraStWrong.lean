/- What package state's Wrong answers. -/
import Derived.Test.YtnedafiokmjkkaaGreatDoorraBkPack
namespace Go.Proofs.YtnedafiokmjkkaaGreatDoor
open Tryz
set_option maxRecDepth 1000000
set_option maxHeartbeats 8000000
open Go.RowKit
structure Rel (R:World→World→Prop):Prop where
 low:∀ W W',Bd W W'→R W W'
 trans:∀ a b c,R a b→R b c→R a c
section
variable (P:Program) (ops:Array Oper) (Q:Exit→Act→World→Prop) (fr:(Nat→Value)→Array Value) (R:World→World→Prop) (w:World) (C:World→Prop) (t:Array Value) (tl:List Oper)
def QaR (G:Z8):Prop:=∀ v W W',R W W'→G v W→G v W'
def Qor (o:Oper) (k:Nat) (a:Act) (W:World) (G:Z8):Prop:=ops[k]?=some o→wpOp P ops Q k (fun a' W'=>∃ v,a'=a.put o.dst v∧R W W'∧G v W') a W
def RS:Nat→List Z8→List Oper→Prop
 | _,F,[]=>∀ σ W,R w W→C W→Jm F 0 σ W→wpList P ops Q tl ⟨fr σ,[]⟩ W
 | k,F,o :: l=>∃ G,QaR R G∧(∀ σ W,R w W→C W→Has t F o.after k l σ W→Qor P ops Q R o k ⟨fr σ,[]⟩ W G)∧RS (k+1) (F ++ [G]) l
end
variable {P:Program} {ops:Array Oper} {Q:Exit→Act→World→Prop} {fr:(Nat→Value)→Array Value} {R:World→World→Prop} {w:World} {C:World→Prop} {t:Array Value} {tl:List Oper} {F:List Z8} {k:Nat} {o:Oper} {l:List Oper}
theorem RS.facts:∀ (l:List Oper) (k:Nat) (F:List Z8),RS P ops Q fr R w C t tl k F l→F.length=k→(∀ G∈F,QaR R G)→∃ Fs,Fs.length=k+l.length∧(∀ G∈Fs,QaR R G)∧(∀ i,i<k→Fs[i]?=F[i]?) ∧
  (∀ i o,l[i]?=some o→∀ σ W,R w W→C W→Has t (Fs.take (k+i)) o.after (k+i) (l.drop (i+1)) σ W→Qor P ops Q R o (k+i) ⟨fr σ,[]⟩ W (Fs.getD (k+i) (fun _ _=>True))) ∧
  ∀ σ W,R w W→C W→Jm Fs 0 σ W→wpList P ops Q tl ⟨fr σ,[]⟩ W
 | [],k,F,h,hk,hs=>⟨F,by simpa using hk,hs,fun _ _=>rfl,fun i o h=>by simp at h,h⟩
 | o :: l,k,F,h,hk,hs=>by
  obtain ⟨G,h1,h2,h3⟩:=h
  obtain ⟨Fs,e1,e2,e3,e4,e5⟩:=RS.facts l (k+1) (F ++ [G]) h3 (by simp [hk]) (fun H hH=>by
   rcases Bz.1 hH with h | h
   ·grind
   ·obtain rfl:=BO.1 h;exact h1)
  have eF:Fs.take k=F:=by
   apply CP;intro i;rw [BE]
   split
   ·grind
   ·grind
  refine ⟨Fs,by simp at e1 ⊢;omega,e2,fun i hi=>by rw [e3 i (by omega),Cw (by omega)],fun i p hp=>?_,e5⟩
  cases i with
  | zero =>
   obtain rfl:o=p:=by simp_all
   intro σ W hb hc hh;rw [BI,eF] at hh;have:Fs.getD (k+0) (fun _ _=>True)=G:=by simp_all
   rw [this];exact h2 σ W hb hc hh
  | succ i =>
   have:=e4 i p (by simpa using hp)
   rw [show k+1+i=k+(i+1) by omega] at this
   exact this
theorem QhV {id:Nat} (hR:Rel R) (hm:P.follows .mixedOrders=true) (hC:∀ W,R w W→C W) (A:(Zc 0 l && Qd4 l)=true) (L:∀ σ,Qj t l 0 σ=fr σ) (h:RS P l.toArray Q fr R w C t [] 0 [] l):(Code.region id l.toArray true).wp P Q ⟨t,[]⟩ w:=by
 rw [BW] at A;obtain ⟨Fs,e1,e2,-,e4,e5⟩:=RS.facts l 0 [] h rfl (by simp)
 have aB:∀ i,QaR R (Fs.getD i (fun _ _=>True)):=fun i=>by
  rw [CC]
  cases hi:Fs[i]? with
  | none=>exact fun _ _ _ _ _=>trivial
  | some G=>exact e2 G (Bn hi)
 have h0:∀ s:Array Bool,∀ i,s.getD i false=true∨s.getD i false=false:=fun s i=>by cases s.getD i false <;> simp
 refine Qa4 hm (fun s a W=>∃ σ,s.size=l.length∧a=⟨fr σ,[]⟩∧R w W∧(∀ i,s.getD i false=true→(Fs.getD i (fun _ _=>True)) (σ i) W)∧(∀ i o d,l[i]?=some o→o.dst=some d→s.getD i false=false→σ i=t.getD d undef)∧∀ i o,l[i]?=some o→s.getD i false=true→∀ e∈o.after,Region.binds .any e=true→s.getD e.on false=true) ?_ ?_ ?_
 ·refine ⟨fun i=>t.getD (((l[i]?).bind (·.dst)).getD 0) undef,by simp,?_,hR.low _ _ (Bi _ _).drew,(fun i hi=>by rw [Ca] at hi;cases hi),(fun i o d hi hd _=>by simp [hi,hd]),(fun i o _ hi=>by rw [Ca] at hi;cases hi)⟩
  rw [← L,Ze];intro j o d hj ho;simp [hj,ho]
 ·rintro s a W ⟨σ,hs,rfl,hb,hg,hu,hd⟩ i hi
  obtain ⟨hun,o,ho,I⟩:=BY.1 hi;have ho':l[i]?=some o:=by simp_all
  have m:i<s.size:=by grind
  have aC:s.getD i false=false:=by simp_all
  have:=e4 i o ho' σ W hb (hC W hb) ⟨fun e he b=>by
   have Y:=QR l 0 i o A.1 ho' e he b;have:=hg _ (I e he b);rw [CC,BE,if_pos Y,← CC]
   exact this,QcW _ _ fun q p d hq M he=>?_⟩ (by simpa using ho')
  ·rw [Bq] at this
   refine CB ?_ this;rintro a' W' ⟨v,rfl,h1,h2⟩;refine ⟨Qn σ i v,by simpa using hs,?_,hR.trans _ _ _ hb h1,fun j z=>?_,fun j p d hj M D=>?_,fun j p hj z e he b=>?_⟩
   ·have:=Qan l t 0 i o σ v A.2 ho'
    rw [Bq] at this;rw [← L,← L,this]
   ·by_cases e:j=i
    ·subst e
     simpa [Qn] using h2
    ·have T:s.getD j false=true:=by
      rw [BL false (Ne.symm e)] at z;exact z
     rw [show Qn σ i v j=σ j by simp [Qn,e]]
     exact aB j _ _ _ h1 (hg j T)
   ·by_cases e:j=i
    ·subst e
     rw [C6,Dk m] at D
     cases D
    ·rw [BL false (Ne.symm e)] at D
     rw [show Qn σ i v j=σ j by simp [Qn,e]]
     exact hu j p d hj M D
   ·have key:s.getD e.on false=true:=by
     by_cases e':j=i
     ·subst e'
      obtain rfl:o=p:=by rw [ho'] at hj;exact Bu hj
      exact I e he b
     ·rw [BL false (Ne.symm e')] at z
      exact hd j p hj z e he b
    by_cases e':e.on=i
    ·rw [e',C6,Dk m]
     rfl
    ·rw [BL false (Ne.symm e')]
     exact key
  ·rw [Bq] at he ⊢
   rw [Co] at hq;rw [show i+1+q=i+1+q from rfl];obtain ⟨e,S,b,aA⟩:=he
   rcases h0 s (i+1+q) with hj | hj
   ·have:=hd _ p hq hj e S b
    rw [aA,aC] at this
    cases this
   ·exact hu _ p d hq M hj
 ·rintro s a W ⟨σ,hs,rfl,hb,hg,-,-⟩ hr
  refine e5 σ W hb (hC W hb) (Qez _ _ _ _ fun i hi=>?_)
  rw [Bq];refine hg i ?_
  have O:∀ n i,i<n→i<l.length→s.getD i false=true:=by
   intro n
   induction n with
   | zero=>intro i h;omega
   | succ n ih =>
    intro i hin m
    cases hb:s.getD i false with
    | true=>rfl
    | false =>
     exfalso;have ho:l[i]?=some l[i]:=Bk m;have E:=QR l 0 i _ A.1 ho;have:i∈Region.ready .any l.toArray s:=BY.2 ⟨getD_in (by rw [hs];exact m) hb,l[i],by simp,fun e he b=>ih _ (by have:=E e he b;omega) (by have:=E e he b;omega)⟩
     rw [hr] at this
     cases this
  exact O (i+1) i (by omega) (by omega)
theorem QaR.eq (v:Value):QaR R (fun X _=>X=v):=fun _ _ _ _ h=>h
theorem Qfz {a:Act} {W W':World} {v:Value} {G:Z8} (hw:Region.wanted o (yielded ops a.tmps)=true) (h:(execOp a.eval o).run P W=.ok (.value v) W') (hb:R W W') (hg:G v W'):Qor P ops Q R o k a W G:=fun ho=>by
 unfold wpOp;rw [ho];simp only [hw];exact .inl (by unfold Oper.wp;rw [h];exact ⟨v,rfl,hb,hg⟩)
theorem Qnf {a:Act} {W:World} {f:FuncId} {b:Array Value} {G:Z8} (hw:Region.wanted o (yielded ops a.tmps)=true) (h:(execOp a.eval o).run P W=.ok (.enter f b) W) (hc:Calls P f b W fun e W'=>∃ v,e=.returned v∧R W W'∧G v W'):Qor P ops Q R o k a W G:=fun ho=>by
 unfold wpOp;rw [ho];simp only [hw];refine .inl ?_;unfold Oper.wp;rw [h];refine hc.mono ?_;rintro e W' ⟨v,rfl,hb,hg⟩;exact ⟨v,rfl,hb,hg⟩
theorem RS.val {v:Value} (hR:Rel R) (hg:o.guard=none) (h:∀ σ W,R w W→C W→Has t F o.after k l σ W→(execOp (Act.eval ⟨fr σ,[]⟩) o).run P W=.ok (.value v) W) (hn:RS P ops Q fr R w C t tl (k+1) (F ++ [fun X _=>X=v]) l):RS P ops Q fr R w C t tl k F (o :: l) :=
 ⟨_,QaR.eq v,fun σ W hb hc hh=>Qfz (JI hg) (h σ W hb hc hh) (hR.low _ _ (Bi _ _)) rfl,hn⟩
theorem RS.valW {v:Value} (hR:Rel R) (h:∀ σ W,R w W→C W→Has t F o.after k l σ W→Region.wanted o (yielded ops (fr σ))=true∧(execOp (Act.eval ⟨fr σ,[]⟩) o).run P W=.ok (.value v) W) (hn:RS P ops Q fr R w C t tl (k+1) (F ++ [fun X _=>X=v]) l):RS P ops Q fr R w C t tl k F (o :: l) :=
 ⟨_,QaR.eq v,fun σ W hb hc hh=>Qfz (h σ W hb hc hh).1 (h σ W hb hc hh).2 (hR.low _ _ (Bi _ _)) rfl,hn⟩
theorem RS.pass (hR:Rel R) (h:∀ σ W,R w W→C W→Has t F o.after k l σ W→Region.wanted o (yielded ops (fr σ))=false) (hn:RS P ops Q fr R w C t tl (k+1) (F ++ [fun X _=>X=undef]) l):RS P ops Q fr R w C t tl k F (o :: l) :=
 ⟨_,QaR.eq undef,fun σ W hb hc hh ho=>by
  unfold wpOp;rw [ho];simp only [h σ W hb hc hh]
  exact ⟨undef,rfl,hR.low _ _ (Bi _ _),rfl⟩,hn⟩
theorem RS.callG (G:Z8) (hs:QaR R G) (hg:o.guard=none) (h:∀ σ W,R w W→C W→Has t F o.after k l σ W→∃ f b,(execOp (Act.eval ⟨fr σ,[]⟩) o).run P W=.ok (.enter f b) W∧Calls P f b W fun e W'=>∃ v,e=.returned v∧R W W'∧G v W') (hn:RS P ops Q fr R w C t tl (k+1) (F ++ [G]) l):RS P ops Q fr R w C t tl k F (o :: l) :=
 ⟨G,hs,fun σ W hb hc hh=>by
  obtain ⟨f,b,h1,h2⟩:=h σ W hb hc hh
  exact Qnf (JI hg) h1 h2,hn⟩
theorem RS.new (G:Z8) (hs:QaR R G) (hg:o.guard=none) (h:∀ σ W,R w W→C W→Has t F o.after k l σ W→∃ v W',(execOp (Act.eval ⟨fr σ,[]⟩) o).run P W=.ok (.value v) W'∧R W W'∧G v W') (hn:RS P ops Q fr R w C t tl (k+1) (F ++ [G]) l):RS P ops Q fr R w C t tl k F (o :: l) :=
 ⟨G,hs,fun σ W hb hc hh=>by
  obtain ⟨v,W',h1,h2,h3⟩:=h σ W hb hc hh
  exact Qfz (JI hg) h1 h2 h3,hn⟩
theorem RS.sto (A:World→Prop) (hs:∀ W W',R W W'→A W→A W') (hg:o.guard=none) (h:∀ σ W,R w W→C W→Has t F o.after k l σ W→∃ W',(execOp (Act.eval ⟨fr σ,[]⟩) o).run P W=.ok .skip W'∧R W W'∧A W') (hn:RS P ops Q fr R w C t tl (k+1) (F ++ [fun _ W=>A W]) l):RS P ops Q fr R w C t tl k F (o :: l) :=
 ⟨fun _ W=>A W,fun _ W W' hb h=>hs W W' hb h,fun σ W hb hc hh ho=>by
  obtain ⟨W',h1,h2,h3⟩:=h σ W hb hc hh;unfold wpOp;rw [ho];simp only [JI hg,if_true]
  exact .inl (by unfold Oper.wp;rw [h1];exact ⟨undef,rfl,h2,h3⟩),hn⟩
def Wr (gs:List Nat) (As:List (World→Prop)) (W W':World):Prop:=Below 0 W W'∧(∀ k,k<W.heap.size→k ∉ gs→W'.heap[k]?=W.heap[k]?)∧∀ A∈As,A W→A W'
theorem Wr.rel {gs:List Nat} {As:List (World→Prop)} (h:∀ A∈As,∀ W W',Bd W W'→A W→A W'):Rel (Wr gs As) :=
 ⟨fun W W' hb=>⟨hb.mono (by omega),fun k hk _=>hb.block k hk,fun A hA=>h A hA W W' hb⟩,fun _ _ _ h1 h2=>⟨h1.1.trans h2.1,fun k hk hg=>(h2.2.1 k (Br hk h1.1.size) hg).trans (h1.2.1 k hk hg),fun A hA b=>h2.2.2 A hA (h1.2.2 A hA b)⟩⟩
theorem Wr.below {gs:List Nat} {As:List (World→Prop)} {B:Nat} {W W':World} (h:Wr gs As W W') (hB:B≤W.heap.size) (hg:∀ g∈gs,B≤g):Below B W W':=⟨h.1.os,h.1.tape,h.1.output,h.1.size,fun k hk=>h.2.1 k (by omega) (fun hm=>by have:=hg k hm;omega)⟩
theorem Wr.row {gs:List Nat} {As:List (World→Prop)} {W W':World} {g:Nat} {ty:TypeId} {cs:List Value} (h:Wr gs As W W') (hr:Row W g ty cs) (hg:g ∉ gs):Row W' g ty cs:=(h.2.1 g hr.lt hg).trans hr
theorem Wr.write {gs:List Nat} {As:List (World→Prop)} {W W':World} {g:Nat} (O:JH g W W') (hg:g∈gs) (h:∀ A∈As,A W→A W'):Wr gs As W W':=⟨O.below,fun k _ hk=>O.same k (fun e=>hk (e ▸ hg)),h⟩
theorem Qni {o:Oper} {ev:Operand→Value} {W:World} {g:Nat} {ty:TypeId} {x y:Operand} {b:Array Value} {d:List Value} (ho:o.op=.store ty x y) (hx:ev x=.pointer (some ⟨g,0,none⟩)) (hy:ev y=.agg b) (hr:Row W g ty d) (hs:Qw ty d.length) (hn:d.length=b.size) (h1:b.all (·.oneCell')=true) :
  (execOp ev o).run prog W=.ok .skip (W.setRow g b):=by
 unfold execOp;simp only [ho,hx,hy,Instr.storeAt,Instr.sureAddr,Cz,CG,CH,run_storeVar_row W g ty ty d.toArray b hr (by rw [hs.2,hn]) (by simpa using hn) h1]
theorem QnW {W:World} {g:Nat} {ty:TypeId} {d:List Value} (hr:Row W g ty d) (b:Array Value):Row (W.setRow g b) g ty b.toList:=by
 have:=Cm W g d.toArray b ty (0,0) hr;unfold Row;simpa using this
def Sp (g:Nat) (ty:TypeId) (n:Nat) (W:World):Prop:=∃ old,Row W g ty old∧old.length=n
theorem Sp.low {g:Nat} {ty:TypeId} {n:Nat} {W W':World} (hb:Bd W W') (h:Sp g ty n W):Sp g ty n W':=by
 obtain ⟨b,h1,h2⟩:=h;exact ⟨b,h1.below hb h1.lt,h2⟩
theorem Sp.only {g k:Nat} {ty:TypeId} {n:Nat} {W W':World} (O:JH k W W') (hk:g≠k) (h:Sp g ty n W):Sp g ty n W':=by
 obtain ⟨b,h1,h2⟩:=h;exact ⟨b,(O.same g hk).trans h1,h2⟩
theorem Sp.store {o:Oper} {ev:Operand→Value} {W:World} {g n:Nat} {ty:TypeId} {x y:Operand} {b:Array Value} (h:Sp g ty n W) (ho:o.op=.store ty x y) (hx:ev x=.pointer (some ⟨g,0,none⟩)) (hy:ev y=.agg b) (hs:Qw ty n) (hn:n=b.size) (h1:b.all (·.oneCell')=true) :
  ∃ W',(execOp ev o).run prog W=.ok .skip W'∧JH g W W'∧Row W' g ty b.toList:=by
 obtain ⟨old,hr,rfl⟩:=h;exact ⟨_,Qni ho hx hy hr hs hn h1,JH.row g W b,QnW hr b⟩
theorem RS.store {g n:Nat} {ty:TypeId} {x y:Operand} (A:World→Prop) (hs:∀ W W',R W W'→A W→A W') (hg:o.guard=none) (ho:o.op=.store ty x y) (d:∀ W,R w W→Sp g ty n W) (e:Qw ty n)
  (h:∀ σ W,R w W→C W→Has t F o.after k l σ W→∃ b:Array Value,Act.eval ⟨fr σ,[]⟩ x=.pointer (some ⟨g,0,none⟩)∧Act.eval ⟨fr σ,[]⟩ y=.agg b∧n=b.size∧b.all (·.oneCell')=true∧∀ W',JH g W W'→Row W' g ty b.toList→R W W'∧A W')
  (hn:RS prog ops Q fr R w C t tl (k+1) (F ++ [fun _ W=>A W]) l):RS prog ops Q fr R w C t tl k F (o :: l) :=
 RS.sto A hs hg (fun σ W hb hc hh=>by
  obtain ⟨b,h1,h2,h3,h4,h5⟩:=h σ W hb hc hh;obtain ⟨W',g1,g2,g3⟩:=(d W hb).store ho h1 h2 e h3 h4
  exact ⟨W',g1,h5 W' g2 g3⟩) hn
def W1 (g:Nat) (t:TypeId) (n:Nat) (cs:List Value):World→World→Prop:=Wr [g] [Sp g t n,fun W=>Row W g t cs]
theorem W1.rel (g:Nat) (t:TypeId) (n:Nat) (cs:List Value):Rel (W1 g t n cs):=Wr.rel fun A hA W W' hb h=>by
 simp only [Bo,BG,BJ] at hA
 rcases hA with rfl | rfl
 ·exact h.low hb
 ·exact Row.below h hb h.lt
theorem W1.store {B g n:Nat} {x y:Operand} {ty:TypeId} {w0:World} {L:List Bx} {d cs:List Value} (hF:FrB B w0 L w) (i:Nat) (hi:L[i]?=some (g,ty,d)) (hg:o.guard=none) (ho:o.op=.store ty x y) (e:Qw ty n) (hn:d.length=n) (h1:n=cs.length) (h2:cs.toArray.all (·.oneCell')=true)
  (h:∀ σ W,W1 g ty n cs w W→C W→Has t F o.after k l σ W→Act.eval ⟨fr σ,[]⟩ x=.pointer (some ⟨g,0,none⟩)∧Act.eval ⟨fr σ,[]⟩ y=.agg cs.toArray)
  (hr:RS prog ops Q fr (W1 g ty n cs) w C t tl (k+1) (F ++ [fun _ W=>Row W g ty cs]) l):RS prog ops Q fr (W1 g ty n cs) w C t tl k F (o :: l) :=
 RS.store (fun W=>Row W g ty cs) (fun W W' hb=>hb.2.2 (fun W=>Row W g ty cs) (by simp)) hg ho (fun W hb=>hb.2.2 (Sp g ty n) (by simp) ⟨d,hF.rows _ (Bn hi),hn⟩) e
  (fun σ W hb hc hh=>⟨_,(h σ W hb hc hh).1,(h σ W hb hc hh).2,by simpa using h1,h2,fun W' O b=>⟨Wr.write O (by simp) fun A hA _=>by
   simp only [Bo,BG,BJ] at hA
   rcases hA with rfl | rfl
   ·exact ⟨cs,b,h1.symm⟩
   ·exact b,b⟩⟩) hr
theorem W1.frame {B g n:Nat} {ty:TypeId} {w0 W:World} {L:List Bx} {d cs:List Value} (hb:W1 g ty n cs w W) (hF:FrB B w0 L w) (i:Nat) (hi:L[i]?=some (g,ty,d)) (hr:Row W g ty cs):FrB B w0 (L.set i (g,ty,cs)) W :=
 hF.turn hi hr (hF.b.trans (hb.below hF.sz (by simpa using hF.own _ (Bn hi)))) fun k hk hl=>hb.2.1 k hl (by simpa using hk)
def QE (τ:Nat→Option Value) (k:Nat) (v:Value):Nat→Option Value:=fun i=>if i=k then some v else τ i
section
variable (P:Program) (ops:Array Oper) (Q:Exit→Act→World→Prop) (fr:(Nat→Value)→Array Value) (J:(Nat→Option Value)→World→Prop) (C:World→Prop) (t:Array Value)
def QuD (o:Oper) (k:Nat) (a:Act) (W:World) (τ:Nat→Option Value) (G:Z8):Prop:=ops[k]?=some o→wpOp P ops Q k (fun a' W'=>∃ v,a'=a.put o.dst v∧J (QE τ k v) W'∧G v W') a W
def RJ:Nat→List Z8→List Oper→Prop
 | _,F,[]=>∀ σ W τ,(∀ i,i<F.length→τ i=some (σ i))→J τ W→C W→Jm F 0 σ W→wpList P ops Q [] ⟨fr σ,[]⟩ W
 | k,F,o :: l=>∃ G,QaR (fun _ _=>True) G∧(∀ σ W τ,J τ W→C W→(∀ e∈o.after,Region.binds .any e=true→τ e.on=some (σ e.on))→τ k=none→Has t F o.after k l σ W→QuD P ops Q J o k ⟨fr σ,[]⟩ W τ G)∧RJ (k+1) (F ++ [G]) l
end
variable {P:Program} {ops:Array Oper} {Q:Exit→Act→World→Prop} {fr:(Nat→Value)→Array Value} {J:(Nat→Option Value)→World→Prop} {w:World} {C:World→Prop} {t:Array Value} {F:List Z8} {k:Nat} {o:Oper} {l:List Oper}
theorem RJ.facts:∀ (l:List Oper) (k:Nat) (F:List Z8),RJ P ops Q fr J C t k F l→F.length=k→(∀ G∈F,QaR (fun _ _=>True) G)→∃ Fs,Fs.length=k+l.length∧(∀ G∈Fs,QaR (fun _ _=>True) G)∧(∀ i,i<k→Fs[i]?=F[i]?) ∧
  (∀ i o,l[i]?=some o→∀ σ W τ,J τ W→C W→(∀ e∈o.after,Region.binds .any e=true→τ e.on=some (σ e.on))→τ (k+i)=none→Has t (Fs.take (k+i)) o.after (k+i) (l.drop (i+1)) σ W→QuD P ops Q J o (k+i) ⟨fr σ,[]⟩ W τ (Fs.getD (k+i) (fun _ _=>True))) ∧
  ∀ σ W τ,(∀ i,i<Fs.length→τ i=some (σ i))→J τ W→C W→Jm Fs 0 σ W→wpList P ops Q [] ⟨fr σ,[]⟩ W
 | [],k,F,h,hk,hs=>⟨F,by simpa using hk,hs,fun _ _=>rfl,fun i o h=>by simp at h,h⟩
 | o :: l,k,F,h,hk,hs=>by
  obtain ⟨G,h1,h2,h3⟩:=h
  obtain ⟨Fs,e1,e2,e3,e4,e5⟩:=RJ.facts l (k+1) (F ++ [G]) h3 (by simp [hk]) (fun H hH=>by
   rcases Bz.1 hH with h | h
   ·grind
   ·obtain rfl:=BO.1 h;exact h1)
  have eF:Fs.take k=F:=by
   apply CP;intro i;rw [BE]
   split
   ·grind
   ·grind
  refine ⟨Fs,by simp at e1 ⊢;omega,e2,fun i hi=>by rw [e3 i (by omega),Cw (by omega)],fun i p hp=>?_,e5⟩
  cases i with
  | zero =>
   obtain rfl:o=p:=by simp_all
   intro σ W τ hb hc ha hn hh;rw [BI,eF] at hh;have:Fs.getD (k+0) (fun _ _=>True)=G:=by simp_all
   rw [this];exact h2 σ W τ hb hc ha hn hh
  | succ i =>
   have:=e4 i p (by simpa using hp)
   rw [show k+1+i=k+(i+1) by omega] at this
   exact this
def QdY (s:Array Bool) (σ:Nat→Value):Nat→Option Value:=fun i=>if s.getD i false=true then some (σ i) else none
theorem Qus {s:Array Bool} {σ:Nat→Value} {i:Nat} {v:Value} (hi:i<s.size):QE (QdY s σ) i v=QdY (s.setIfInBounds i true) (Qn σ i v):=by
 funext j
 unfold QE QdY Qn
 by_cases e:j=i
 ·simp_all
 ·rw [if_neg e,BL false (Ne.symm e),if_neg e]
theorem Qa3 {id:Nat} (hm:P.follows .mixedOrders=true) (hC:∀ τ W,J τ W→C W) (h0:J (fun _=>none) w.drew) (D:(Zc 0 l && Qd4 l)=true) (L:∀ σ,Qj t l 0 σ=fr σ) (h:RJ P l.toArray Q fr J C t 0 [] l):(Code.region id l.toArray true).wp P Q ⟨t,[]⟩ w:=by
 rw [BW] at D;obtain ⟨Fs,e1,e2,-,e4,e5⟩:=RJ.facts l 0 [] h rfl (by simp)
 have aC:∀ i,QaR (fun _ _=>True) (Fs.getD i (fun _ _=>True)):=fun i=>by
  rw [CC]
  cases hi:Fs[i]? with
  | none=>exact fun _ _ _ _ _=>trivial
  | some G=>exact e2 G (Bn hi)
 have h0':∀ s:Array Bool,∀ i,s.getD i false=true∨s.getD i false=false:=fun s i=>by cases s.getD i false <;> simp
 refine Qa4 hm (fun s a W=>∃ σ,s.size=l.length∧a=⟨fr σ,[]⟩∧J (QdY s σ) W∧(∀ i,s.getD i false=true→(Fs.getD i (fun _ _=>True)) (σ i) W)∧(∀ i o d,l[i]?=some o→o.dst=some d→s.getD i false=false→σ i=t.getD d undef)∧∀ i o,l[i]?=some o→s.getD i false=true→∀ e∈o.after,Region.binds .any e=true→s.getD e.on false=true) ?_ ?_ ?_
 ·refine ⟨fun i=>t.getD (((l[i]?).bind (·.dst)).getD 0) undef,by simp,?_,?_,(fun i hi=>by rw [Ca] at hi;cases hi),(fun i o d hi hd _=>by simp [hi,hd]),(fun i o _ hi=>by rw [Ca] at hi;cases hi)⟩
  ·rw [← L,Ze]
   intro j o d hj ho;simp [hj,ho]
  ·have:QdY (Array.replicate l.toArray.size false) (fun i=>t.getD (((l[i]?).bind (·.dst)).getD 0) undef)=fun _=>none:=by
    funext i
    unfold QdY;rw [Ca];rfl
   rw [this];exact h0
 ·rintro s a W ⟨σ,hs,rfl,hb,hg,hu,hd⟩ i hi
  obtain ⟨hun,o,ho,z⟩:=BY.1 hi;have ho':l[i]?=some o:=by simp_all
  have m:i<s.size:=by grind
  have S:s.getD i false=false:=by simp_all
  have:=e4 i o ho' σ W (QdY s σ) hb (hC _ W hb) (fun e he b=>by unfold QdY;rw [if_pos (z e he b)]) (by rw [Bq];unfold QdY;rw [if_neg (by rw [S];decide)]) ⟨fun e he b=>by
   have aA:=QR l 0 i o D.1 ho' e he b;have:=hg _ (z e he b);rw [CC,BE,if_pos aA,← CC]
   exact this,QcW _ _ fun q p d hq M he=>?_⟩ (by simpa using ho')
  ·rw [Bq] at this
   refine CB ?_ this;rintro a' W' ⟨v,rfl,h1,h2⟩;refine ⟨Qn σ i v,by simpa using hs,?_,?_,fun j A=>?_,fun j p d hj M E=>?_,fun j p hj A e he b=>?_⟩
   ·have:=Qan l t 0 i o σ v D.2 ho'
    rw [Bq] at this;rw [← L,← L,this]
   ·rw [← Qus m]
    exact h1
   ·by_cases e:j=i
    ·subst e
     simpa [Qn] using h2
    ·have Y:s.getD j false=true:=by
      rw [BL false (Ne.symm e)] at A;exact A
     rw [show Qn σ i v j=σ j by simp [Qn,e]]
     exact aC j _ _ _ trivial (hg j Y)
   ·by_cases e:j=i
    ·subst e
     rw [C6,Dk m] at E
     cases E
    ·rw [BL false (Ne.symm e)] at E
     rw [show Qn σ i v j=σ j by simp [Qn,e]]
     exact hu j p d hj M E
   ·have key:s.getD e.on false=true:=by
     by_cases e':j=i
     ·subst e'
      obtain rfl:o=p:=by rw [ho'] at hj;exact Bu hj
      exact z e he b
     ·rw [BL false (Ne.symm e')] at A
      exact hd j p hj A e he b
    by_cases e':e.on=i
    ·rw [e',C6,Dk m]
     rfl
    ·rw [BL false (Ne.symm e')]
     exact key
  ·rw [Bq] at he ⊢
   rw [Co] at hq;rw [show i+1+q=i+1+q from rfl];obtain ⟨e,T,b,aB⟩:=he
   rcases h0' s (i+1+q) with hj | hj
   ·have:=hd _ p hq hj e T b
    rw [aB,S] at this
    cases this
   ·exact hu _ p d hq M hj
 ·rintro s a W ⟨σ,hs,rfl,hb,hg,-,-⟩ hr
  have O:∀ n i,i<n→i<l.length→s.getD i false=true:=by
   intro n
   induction n with
   | zero=>intro i h;omega
   | succ n ih =>
    intro i hin m
    cases hb:s.getD i false with
    | true=>rfl
    | false =>
     exfalso;have ho:l[i]?=some l[i]:=Bk m;have I:=QR l 0 i _ D.1 ho;have:i∈Region.ready .any l.toArray s:=BY.2 ⟨getD_in (by rw [hs];exact m) hb,l[i],by simp,fun e he b=>ih _ (by have:=I e he b;omega) (by have:=I e he b;omega)⟩
     rw [hr] at this
     cases this
  have hlen:Fs.length=l.length:=by rw [e1];omega
  refine e5 σ W _ (fun i hi=>?_) hb (hC _ W hb) (Qez _ _ _ _ fun i hi=>?_)
  ·unfold QdY
   rw [if_pos (O (i+1) i (by omega) (by omega))]
  ·rw [Bq]
   exact hg i (O (i+1) i (by omega) (by omega))
theorem RJ.val {v:Value} (hJ:∀ τ W,J τ W→J (QE τ k v) W) (hg:o.guard=none) (h:∀ σ W,C W→Has t F o.after k l σ W→(execOp (Act.eval ⟨fr σ,[]⟩) o).run P W=.ok (.value v) W) (hn:RJ P ops Q fr J C t (k+1) (F ++ [fun X _=>X=v]) l):RJ P ops Q fr J C t k F (o :: l) :=
 ⟨_,fun _ _ _ _ h=>h,fun σ W τ hb hc _ _ hh ho=>by
  unfold wpOp;rw [ho];simp only [JI hg,if_true]
  exact .inl (by unfold Oper.wp;rw [h σ W hc hh];exact ⟨v,rfl,hJ τ W hb,rfl⟩),hn⟩
theorem RJ.new (hg:o.guard=none) (h:∀ σ W τ,J τ W→C W→(∀ e∈o.after,Region.binds .any e=true→τ e.on=some (σ e.on))→τ k=none→Has t F o.after k l σ W→∃ v W',(execOp (Act.eval ⟨fr σ,[]⟩) o).run P W=.ok (.value v) W'∧J (QE τ k v) W') (hn:RJ P ops Q fr J C t (k+1) (F ++ [fun _ _=>True]) l):RJ P ops Q fr J C t k F (o :: l) :=
 ⟨_,fun _ _ _ _ h=>h,fun σ W τ hb hc ha hk hh ho=>by
  obtain ⟨v,W',h1,h2⟩:=h σ W τ hb hc ha hk hh;unfold wpOp;rw [ho];simp only [JI hg]
  exact .inl (by unfold Oper.wp;rw [h1];exact ⟨v,rfl,h2,trivial⟩),hn⟩
theorem RJ.call (G:Value→Prop) (hg:o.guard=none) (h:∀ σ W τ,J τ W→C W→(∀ e∈o.after,Region.binds .any e=true→τ e.on=some (σ e.on))→τ k=none→Has t F o.after k l σ W→∃ f b,(execOp (Act.eval ⟨fr σ,[]⟩) o).run P W=.ok (.enter f b) W∧Calls P f b W fun e W'=>∃ v,e=.returned v∧J (QE τ k v) W'∧G v) (hn:RJ P ops Q fr J C t (k+1) (F ++ [fun X _=>G X]) l):RJ P ops Q fr J C t k F (o :: l) :=
 ⟨_,fun _ _ _ _ h=>h,fun σ W τ hb hc ha hk hh ho=>by
  obtain ⟨f,b,h1,h2⟩:=h σ W τ hb hc ha hk hh;unfold wpOp;rw [ho];simp only [JI hg];refine .inl ?_;unfold Oper.wp;rw [h1];refine h2.mono ?_;rintro e W' ⟨v,rfl,hb,hg⟩
  exact ⟨v,rfl,hb,hg⟩,hn⟩
theorem RJ.sto (hg:o.guard=none) (h:∀ σ W τ,J τ W→C W→(∀ e∈o.after,Region.binds .any e=true→τ e.on=some (σ e.on))→τ k=none→Has t F o.after k l σ W→∃ W',(execOp (Act.eval ⟨fr σ,[]⟩) o).run P W=.ok .skip W'∧J (QE τ k undef) W') (hn:RJ P ops Q fr J C t (k+1) (F ++ [fun _ _=>True]) l):RJ P ops Q fr J C t k F (o :: l) :=
 ⟨_,fun _ _ _ _ h=>h,fun σ W τ hb hc ha hk hh ho=>by
  obtain ⟨W',h1,h2⟩:=h σ W τ hb hc ha hk hh;unfold wpOp;rw [ho];simp only [JI hg]
  exact .inl (by unfold Oper.wp;rw [h1];exact ⟨undef,rfl,h2,trivial⟩),hn⟩
theorem RJ.store {n:Nat} {ty:TypeId} {x y:Operand} (hg:o.guard=none) (ho:o.op=.store ty x y) (d:Qw ty n) (h:∀ σ W τ,J τ W→C W→(∀ e∈o.after,Region.binds .any e=true→τ e.on=some (σ e.on))→τ k=none→Has t F o.after k l σ W→∃ (g:Nat) (b:Array Value),Sp g ty n W∧Act.eval ⟨fr σ,[]⟩ x=.pointer (some ⟨g,0,none⟩)∧Act.eval ⟨fr σ,[]⟩ y=.agg b∧n=b.size∧b.all (·.oneCell')=true∧∀ W',JH g W W'→Row W' g ty b.toList→J (QE τ k undef) W') (hn:RJ prog ops Q fr J C t (k+1) (F ++ [fun _ _=>True]) l):RJ prog ops Q fr J C t k F (o :: l) :=
 RJ.sto hg (fun σ W τ hb hc ha hk hh=>by
  obtain ⟨g,b,h0,h1,h2,h3,h4,h5⟩:=h σ W τ hb hc ha hk hh;obtain ⟨W',g1,g2,g3⟩:=h0.store ho h1 h2 d h3 h4
  exact ⟨W',g1,h5 W' g2 g3⟩) hn
theorem RJ.valJ {v:Value} (hJ:∀ τ W,J τ W→J (QE τ k v) W) (hg:o.guard=none) (h:∀ σ W τ,J τ W→C W→τ k=none→(execOp (Act.eval ⟨fr σ,[]⟩) o).run P W=.ok (.value v) W) (hn:RJ P ops Q fr J C t (k+1) (F ++ [fun X _=>X=v]) l):RJ P ops Q fr J C t k F (o :: l) :=
 ⟨_,fun _ _ _ _ h=>h,fun σ W τ hb hc _ hk _ ho=>by
  unfold wpOp;rw [ho];simp only [JI hg,if_true]
  exact .inl (by unfold Oper.wp;rw [h σ W τ hb hc hk];exact ⟨v,rfl,hJ τ W hb,rfl⟩),hn⟩
def QdF {α:Type} (T1 T2 t:TypeId) (k:Nat) (f1 f2:FuncId) (Q:α→List Value→Prop) (w:World) (g:Nat) (p:Option α):Prop :=
 ∃ r,FrB g w [(g,T1,[.func (.func f1) #[] #[]]),(g+1,T2,[.func (.func f2) #[] #[]]),(g+2,t,r),(g+2+1,4,[.bool p.isNone])] w∧r.length=k∧∀ a,p=some a→Q a r
theorem QdF.below {α:Type} {T1 T2 t:TypeId} {k:Nat} {f1 f2:FuncId} {Q:α→List Value→Prop} {w w':World} {g:Nat} {p:Option α} (h:QdF T1 T2 t k f1 f2 Q w g p) (hb:Bd w w'):QdF T1 T2 t k f1 f2 Q w' g p :=
 let ⟨r,F,h⟩:=h;⟨r,(F.go hb).now,h⟩
def QjB {α:Type} (wg:α→Int) (less:α→α→Bool) (p:Option α) (x:α):Int:=if wg x≠0 then wg x else if QaB less p x=false then 2 else 0
def QuE (f:FuncId) (T1 T2 t:TypeId) (k:Nat) (f1 f2:FuncId):Prop:=∀ {α:Type} (Q:α→List Value→Prop) (wg:α→Int) (less:α→α→Bool) (g:Nat) (w:World) (p:Option α) (x:α) (r:List Value),Qw t k→QdF T1 T2 t k f1 f2 Q w g p→Q x r→r.length=k→r.toArray.all (·.oneCell')=true →
 (∀ W,Calls prog f1 #[.agg r.toArray] W fun e W'=>e=.returned (Bb (wg x))∧Bd W W') →
 (∀ a s W,Q a s→Calls prog f2 #[.agg s.toArray,.agg r.toArray] W fun e W'=>∃ z,e=.returned (Bb z)∧(0≤z↔less a x=false)∧Bd W W') →
 Calls prog f #[.agg r.toArray,.pointer (some ⟨g,0,none⟩),.pointer (some ⟨g+2+1,0,none⟩),.pointer (some ⟨g+1,0,none⟩),.pointer (some ⟨g+2,0,none⟩)] w fun e w'=>e=.returned (Bb (QjB wg less p x))∧Below g w w'∧(QjB wg less p x=0→QdF T1 T2 t k f1 f2 Q w' g (some x))
theorem Qmg:QuE 40 91 93 90 3 25 26∧QuE 43 95 97 70 3 29 30:=by
 refine ⟨?_,?_⟩
 all_goals
  intro α Q wg q g w p x r hS hR hx hk m h1 h2;obtain ⟨ra,F,C,hQ⟩:=hR;have HE:=hid (show QjB wg q p x=if wg x≠0 then wg x else if QaB q p x=false then 2 else 0 from rfl)
  have HX:=hid hx;have H2:=hid h2;have HQ:=hid hQ;have d:=hid (show Qw _ r.length by rw [hk];exact hS)
  have A:=hid (show Qw _ ra.length by rw [C];exact hS)
  clear h2 hQ hx
  go_in
  go_upto_region 1 with fail
  refine F.box ?_;intro w0 F0 D _;have k:=F0.r0.cell 0
  go_wp2_with (refine F0.load 4 rfl d.out ?_)
  refine (h1 w0).mono ?_;rintro e w1 ⟨rfl,hb⟩;have F1:=F0.go hb;clear hb F0 F h1 k D
  by_cases hz:wg x=0
  ·replace HE:=hid (HE.out.trans (if_neg (by simp [hz])))
   rw [hz]
   cases p with
   | none =>
    have k3:=F1.r3.cell 0;have HN:=hid (HE.out.trans (if_neg (by simp [QaB])))
    go_wp2_with (first | refine F1.load 4 rfl d.out ?_ | (refine F1.store 2 (Prod.ext rfl (Prod.ext rfl (Prod.ext rfl (Prod.ext rfl (Prod.ext rfl (by simp [hk,C])))))) A.out m ?_;intro w2 F2 O2;have k3:=F2.r3.cell 0;have z3:=F2.r3.frozen 0))
    go_ret;have F3:=F2.set1 3 0 (.bool false) rfl;exact ⟨by rw [HN.out];rfl,F3.b,fun _=>⟨r,(F3.take 4).now,hk,fun a e=>by cases e;exact HX.out⟩⟩
   | some a =>
    have k3:=F1.r3.cell 0;have k1:=F1.r1.cell 0
    go_upto_region 5 with (first | refine QbM F1.r2.range A.out rfl rfl rfl ?_ | refine QbM F1.r4.range d.out rfl rfl rfl ?_)
    refine (H2.out a ra w1 (HQ.out a rfl)).mono ?_;rintro e w2 ⟨z,rfl,j,hb⟩;have F2:=F1.go hb;have k3:=F2.r3.cell 0;clear F1 hb k1 hz
    by_cases h0:0≤z
    ·have HN:=hid (HE.out.trans (if_pos (j.1 h0)))
     clear j;go_wp2;go_ret;exact ⟨by rw [HN.out];rfl,F2.b,fun h=>absurd (HN.out.symm.trans h) (by decide)⟩
    ·have HN:=hid (HE.out.trans (if_neg (fun h=>h0 (j.2 h))))
     clear j
     go_wp2_with (first | refine F2.load 4 rfl d.out ?_ | (refine F2.store 2 (Prod.ext rfl (Prod.ext rfl (Prod.ext rfl (Prod.ext rfl (Prod.ext rfl (by simp [hk,C])))))) A.out m ?_;intro w3 F3 O3;have k3:=F3.r3.cell 0;have z3:=F3.r3.frozen 0))
     go_ret;have F4:=F3.set1 3 0 (.bool false) rfl;exact ⟨by rw [HN.out];rfl,F4.b,fun _=>⟨r,(F4.take 4).now,hk,fun a e=>by cases e;exact HX.out⟩⟩
  ·replace HE:=hid (HE.out.trans (if_pos hz))
   have hz':(wg x != 0)=true:=by simpa using hz
   have HZ:=hid hz;clear hz;go_wp2;go_ret;exact ⟨by rw [HE.out];rfl,F1.b,fun h=>absurd (HE.out.symm.trans h) HZ.out⟩
theorem QdF.le {α:Type} {T1 T2 t:TypeId} {k:Nat} {f1 f2:FuncId} {Q:α→List Value→Prop} {w:World} {g:Nat} {p:Option α} (h:QdF T1 T2 t k f1 f2 Q w g p):g≤w.heap.size:=let ⟨_,F,_⟩:=h;F.z
theorem QuQ {α:Type} (wg:α→Int) (b:α→α→Bool) (p:Option α) (x:α) (l:List α):Qdg wg b p (x :: l)=if QjB wg b p x≠0 then QjB wg b p x else Qdg wg b (some x) l:=by
 unfold QjB;rw [Qdg]
 by_cases h1:wg x=0
 ·by_cases h2:QaB b p x=false <;> simp [h1,h2]
 ·simp [h1]
def MkQ (a:Mk) (r:List Value):Prop:=∃ o c,r=[Bb a.chan,Bb a.seq,.slice o a.dig.length c]
def PuQ (a:Pu) (r:List Value):Prop:=r=[.string a.owner,.string a.denom,.int .u64 (a.amount:Int)]
abbrev Qj2 (w:World) (g:Nat) (p:Option Mk):Prop:=QdF 91 93 90 3 25 26 MkQ w g p
abbrev Qj3 (w:World) (g:Nat) (p:Option Pu):Prop:=QdF 95 97 70 3 29 30 PuQ w g p
def Qow (g:Nat):Value:=.func (.func 40) #[] #[.pointer (some ⟨g,0,none⟩),.pointer (some ⟨g+2+1,0,none⟩),.pointer (some ⟨g+1,0,none⟩),.pointer (some ⟨g+2,0,none⟩)]
def Qox (g:Nat):Value:=.func (.func 43) #[] #[.pointer (some ⟨g,0,none⟩),.pointer (some ⟨g+2+1,0,none⟩),.pointer (some ⟨g+1,0,none⟩),.pointer (some ⟨g+2,0,none⟩)]
def QqY (f:FuncId) (clo:Nat→Value) (T1 T2 t:TypeId) (k:Nat) (f1 f2:FuncId):Prop:=∀ (w:World) {α:Type} (Q:α→List Value→Prop),Calls prog f #[.func (.func f1) #[] #[],.func (.func f2) #[] #[]] w fun e w'=>e=.returned (clo w.heap.size)∧Bd w w'∧QdF T1 T2 t k f1 f2 Q w' w.heap.size none
theorem QhZ:QqY 24 Qow 91 93 90 3 25 26∧QqY 28 Qox 95 97 70 3 29 30:=by
 refine ⟨?_,?_⟩
 all_goals
  intro w α Q
  go_in
  go_upto_region 3 with fail
  refine Qah ?_;intro w0 F hs;go_wp2;go_ret;exact ⟨rfl,F.b,_,F.now,rfl,fun _ h=>by cases h⟩
theorem QhY (w:World):Calls prog 24 #[.func (.func 25) #[] #[],.func (.func 26) #[] #[]] w fun e w'=>e=.returned (Qow w.heap.size)∧Bd w w'∧Qj2 w' w.heap.size none:=QhZ.1 w MkQ
theorem QsO (w:World):Calls prog 28 #[.func (.func 29) #[] #[],.func (.func 30) #[] #[]] w fun e w'=>e=.returned (Qox w.heap.size)∧Bd w w'∧Qj3 w' w.heap.size none:=QhZ.2 w PuQ
theorem QpC {α:Type} (f:α→Int) (l:List α) (k:Nat) (x:α) (h:l[k]?=some x):Ju f (l.drop k)=if f x≠0 then f x else Ju f (l.drop (k+1)):=by
 have hk:=(Bm.1 h).1;rw [Cs hk,(Bm.1 h).2,Ju]
theorem QtV {α:Type} (l:List α) (k:Nat) (x:α) (h:l[k]?=some x):l.drop k=x :: l.drop (k+1):=by
 have hk:=(Bm.1 h).1;rw [Cs hk,(Bm.1 h).2]
def Zv (f:FuncId) (t:TypeId) (k:Nat):Prop:=∀ {α:Type} (R:World→Nat→List Value→α→Prop) (J:Nat→World→Prop) (res:Int) (l:List α) (sv:Value) (fid:FuncId) (caps:Array Value) (N B:Nat) (w:World),(∀ (args:Array Value) (W:World),(callFunc fid args).run prog W=.ok (.enter fid args) W)→Qw t k→QaS R→(∀ W r x,R W N r x→r.length=k∧r.toArray.all (·.oneCell')=true) →
 N≤B→B≤w.heap.size→Qt R k w N sv l→l.length<2305843009213693952→J 0 w→(∀ i W W',J i W→Bd W W'→J i W') →
 (∀ i x r W,l[i]?=some x→R W N r x→B≤W.heap.size→J i W→Calls prog fid (#[.agg r.toArray] ++ caps) W fun e W'=>∃ z,e=.returned (Bb z)∧Below B W W'∧(z=0→J (i+1) W')∧(z≠0→res=z))→(∀ W,J l.length W→res=0) →
 Calls prog f #[sv,.func (.func fid) #[] caps] w fun e w'=>e=.returned (Bb res)∧Below B w w'
theorem QbG:Zv 17 78 4∧Zv 19 82 4∧Zv 21 86 7∧Zv 23 90 3∧Zv 27 70 3:=by
 refine ⟨?_,?_,?_,?_,?_⟩
 all_goals
  intro α R J res l sv fid caps N B w D hS aE aC aA M hv hl h0 aF m C;obtain ⟨oa,ca,rfl,hca⟩:=hv.shape;have HV:=hid hv;have L:=hid D;have I:=hid C;clear hv D C;generalize hn:l.length=n at *;have HN:=hid hn;clear hn
  go_in
  go_wp2_with fail
  go_loopw [6,7,10] (fun _ _ i wr=>∃ k:Nat,k≤n∧i=Bb (k:Int)∧Hid (Below B w wr∧J k wr)) (fun _ _ i _=>n-(intOf i).toNat)
  case atStart=>exact ⟨0,by omega,rfl,hid ⟨Bi _ _,h0⟩⟩
  case round =>
   obtain ⟨k,hk,rfl,HT⟩:=hrel;obtain ⟨q,hj⟩:=HT.out;have T:=q.size
   by_cases aB:k<n
   ·have hx:=Bk (show k<l.length by rw [HN.out];exact aB)
    obtain ⟨b,o,rfl,d⟩:=HV.out.spot (by omega)
    obtain ⟨hbN,r,hr,hc⟩:=d k _ hx;obtain ⟨A,aD⟩:=aC _ _ _ hr;have hlt':(k:Int)<(n:Int):=by omega
    have HX:=hid hx;have HR:=hid hr;have HM:=hid (show wr.rangeAt b (o+k*r.length) r from fun j v hv=>(q.cell (show b<B by omega)).trans (by rw [A];exact hc j v hv))
    have HS:=hid (show Qw _ r.length by rw [A];exact hS)
    clear hc hx hr HT d
    go_upto_region 4 with (first | (rw [← A];refine QbM HM.out HS.out rfl rfl rfl ?_) | (refine (FrB.nil wr).storeNew (Prod.ext rfl (Prod.ext rfl (Prod.ext rfl (Prod.ext rfl (by simp [A]))))) hS aD ?_;intro w2 F O))
    have hb:=q.trans (O.mono (Bh M T));have HC:=hid (m k _ r w2 HX.out (aE.below HR.out (hb.mono aA)) (Bh M hb.size) (aF _ _ _ hj O));have Y:=hid (show Qw _ r.toArray.toList.length by simpa using HS.out)
    go_wp2_with (refine F.load 0 rfl Y.out ?_)
    rw [L.out,DN];refine HC.out.mono ?_;rintro e w3 ⟨z,rfl,S,hz,E⟩;have G:=hid (hb.trans S);clear S hb HC hj m
    by_cases h0:z=0
    ·have HJ:=hid (hz h0)
     subst h0;clear hz E;go_wp2;go_roundw
     case rel=>exact ⟨k+1,by omega,by go_num,hid ⟨G.out,HJ.out⟩⟩
     case measure=>simp [intOf];omega
    ·have h1:(z != 0)=true:=by simpa using h0
     have HE:=hid (E h0);clear hz E h0;go_wp2;go_ret;exact ⟨by rw [HE.out];rfl,G.out⟩
   ·have hge:decide ((k:Int)<(n:Int))=false:=by simp;omega
    obtain rfl:k=n:=by omega
    have HE:=hid (I.out _ hj);go_wp2;go_ret;exact ⟨by rw [HE.out];rfl,q⟩
theorem Zv.first {f:FuncId} {t:TypeId} {k:Nat} (H:Zv f t k) (hS:Qw t k) {α:Type} {R:World→Nat→List Value→α→Prop} (hR:QaS R) (m:∀ W N r x,R W N r x→r.length=k∧r.toArray.all (·.oneCell')=true) {g:α→Int} {b:FuncId} (j:∀ (d:Array Value) (W:World),(callFunc b d).run prog W=.ok (.enter b d) W) (l:List α) (sv:Value) (N:Nat) (w:World) (hN:N≤w.heap.size) (hv:Qt R k w N sv l) (hl:l.length<2305843009213693952)
  (hc:∀ x∈l,∀ r W,R W N r x→N≤W.heap.size→Calls prog b #[.agg r.toArray] W fun e W'=>e=.returned (Bb (g x))∧Bd W W') :
  Calls prog f #[sv,.func (.func b) #[] #[]] w fun e w'=>e=.returned (Bb (Ju g l))∧Bd w w' :=
 H R (fun i _=>Ju g l=Ju g (l.drop i)) _ l sv b #[] N w.heap.size w j hS hR (m · N) hN (Bj _) hv hl rfl (fun _ _ _ h _=>h)
  (fun i x r W hx hr hb hj=>(hc x (Bn hx) r W hr (Bh hN hb)).mono (by
   rintro e W' ⟨rfl,h⟩;have:=QpC g l i x hx
   exact ⟨_,rfl,h.mono hb,fun h0=>by rw [hj,this,if_neg (by simpa using h0)],fun h0=>by rw [hj,this,if_pos h0]⟩))
  (fun W h=>by rw [h,List.drop_length];rfl)
theorem Zv.rise {f:FuncId} {t:TypeId} {k:Nat} (H:Zv f t k) (hS:Qw t k) {α:Type} {R:World→Nat→List Value→α→Prop} (hR:QaS R) (A:∀ W N r x,R W N r x→r.length=k∧r.toArray.all (·.oneCell')=true) {wg:α→Int} {b:α→α→Bool} {nx:Option α→α→Int} {J:World→Option α→Prop} {j:FuncId} {d:Array Value} (q:∀ (m:Array Value) (W:World),(callFunc j m).run prog W=.ok (.enter j m) W)
  (z:∀ p x l,Qdg wg b p (x :: l)=if nx p x≠0 then nx p x else Qdg wg b (some x) l) (hJ:∀ p W W',J W p→Bd W W'→J W' p) (l:List α) (sv:Value) (N g:Nat) (w:World) (h0:J w none) (hg:g≤w.heap.size) (hN:N≤g) (hv:Qt R k w N sv l) (hl:l.length<2305843009213693952)
  (hc:∀ p x r W,R W N r x→J W p→Calls prog j (#[.agg r.toArray] ++ d) W fun e W'=>e=.returned (Bb (nx p x))∧Below g W W'∧(nx p x=0→J W' (some x))) :
  Calls prog f #[sv,.func (.func j) #[] d] w fun e w'=>e=.returned (Bb (Qdg wg b none l))∧Below g w w' :=
 H R (fun i W=>∃ p,J W p∧Qdg wg b none l=Qdg wg b p (l.drop i)) _ l sv j d N g w q hS hR (A · N) hN hg hv hl ⟨none,h0,rfl⟩ (fun _ W W' ⟨p,h,e⟩ hb=>⟨p,hJ p W W' h hb,e⟩)
  (fun i x r W hx hr hb ⟨p,hj,e⟩=>(hc p x r W hr hj).mono (by
   rintro e W' ⟨rfl,h,h'⟩;rw [QtV l i x hx,z] at e
   exact ⟨_,rfl,h,fun h0=>⟨some x,h' h0,by rw [e,if_neg (by simpa using h0)]⟩,fun h0=>by rw [e,if_pos h0]⟩))
  (fun W ⟨p,_,e⟩=>by rw [e,List.drop_length];rfl)
theorem QtK (l:List Cl) (sv:Value) (N:Nat) (w:World) (hN:N≤w.heap.size) (hv:Qt ClR 4 w N sv l) (hl:l.length<2305843009213693952) (b:∀ c∈l,c.fits) :
  Calls prog 17 #[sv,.func (.func 18) #[] #[]] w fun e w'=>e=.returned (Bb (Ju Qz l))∧Bd w w' :=
 Zv.first QbG.1 Qm ClR.stays (fun W N r x ⟨kv,e,hk⟩=>by obtain ⟨_,_,rfl,-⟩:=hk.shape;subst e;exact ⟨rfl,by simp⟩) (fun _ _=>rfl) l sv N w hN hv hl fun x hx r W ⟨kv,e,hk⟩ hN=>by subst e;exact Qg5 x _ N W ⟨_,rfl,hk⟩ hN (b x hx)
theorem QtL (l:List Cn) (sv:Value) (N:Nat) (w:World) (hN:N≤w.heap.size) (hv:Qt CnR 4 w N sv l) (hl:l.length<2305843009213693952) :
  Calls prog 19 #[sv,.func (.func 20) #[] #[]] w fun e w'=>e=.returned (Bb (Ju Jf l))∧Bd w w' :=
 Zv.first QbG.2.1 YW CnR.stays (fun W N r x e=>by subst e;exact ⟨rfl,by simp [Q5]⟩) (fun _ _=>rfl) l sv N w hN hv hl fun x _ r W e _=>by subst e;exact QiT x W
theorem QtJ (l:List Ch) (sv:Value) (N:Nat) (w:World) (hN:N≤w.heap.size) (hv:Qt ChR 7 w N sv l) (hl:l.length<2305843009213693952) :
  Calls prog 21 #[sv,.func (.func 22) #[] #[]] w fun e w'=>e=.returned (Bb (Ju Q0 l))∧Bd w w' :=
 Zv.first QbG.2.2.1 Yi ChR.stays (fun W N r x e=>by subst e;exact ⟨rfl,by simp [Qr]⟩) (fun _ _=>rfl) l sv N w hN hv hl fun x _ r W e _=>by subst e;exact QiS x W
theorem Qj6 (l:List Mk) (sv:Value) (N g:Nat) (w:World) (hR:Qj2 w g none) (hN:N≤g) (hv:Qt MkR 3 w N sv l) (hl:l.length<2305843009213693952) :
  Calls prog 23 #[sv,Qow g] w fun e w'=>e=.returned (Bb (QP l))∧Below g w w' :=
 Zv.rise QbG.2.2.2.1 Qid MkR.stays (fun W N r x ⟨kv,e,hk⟩=>by obtain ⟨_,_,rfl,-⟩:=hk.shape;subst e;exact ⟨rfl,by simp⟩) (fun _ _=>rfl) (QuQ _ _) (J:=fun W p=>Qj2 W g p) (fun p W W' h hb=>h.below hb) l sv N g w hR hR.le hN hv hl fun p x r W ⟨kv,e,hk⟩ h=>by
  obtain ⟨o,c,rfl,-⟩:=hk.shape;subst e;exact Qmg.1 _ _ _ g W p x _ Qid h ⟨_,_,rfl⟩ rfl (by simp) (fun W=>QiU x o c W) fun a s W ⟨o',c',e⟩=>by subst e;exact (QbI a x o' o c' c W).mono (by rintro e w' ⟨rfl,hb⟩;exact ⟨_,rfl,by rw [QhF];simp,hb⟩)
theorem QtM (l:List Pu) (sv:Value) (N g:Nat) (w:World) (hR:Qj3 w g none) (hN:N≤g) (hv:Qt PuR 3 w N sv l) (hl:l.length<2305843009213693952) :
  Calls prog 27 #[sv,Qox g] w fun e w'=>e=.returned (Bb (QaG l))∧Below g w w' :=
 Zv.rise QbG.2.2.2.2 Qdd PuR.stays (fun W N r x e=>by subst e;exact ⟨rfl,by simp [YM]⟩) (fun _ _=>rfl) (QuQ _ _) (J:=fun W p=>Qj3 W g p) (fun p W W' h hb=>h.below hb) l sv N g w hR hR.le hN hv hl fun p x r W e h=>by
  subst e;exact Qmg.2 _ _ _ g W p x _ Qdd h rfl rfl (by simp [YM]) (Qiq x) fun a s W e=>by subst e;exact (Qbh a x W).mono (by rintro e w' ⟨rfl,hb⟩;exact ⟨_,rfl,by rw [QhG];simp,hb⟩)
theorem QmE (n:ByteArray) (h t:Int) (o1 o2 o3 o4 o5 o6 o7:Option Addr) (n1 n2 n3 n4 n5 n6 n7 c1 c2 c3 c4 c5 c6 c7:Nat) (w:World) :
  Calls prog 15 #[.agg #[.string n,Bb h,Bb t,.slice o1 n1 c1,.slice o2 n2 c2,.slice o3 n3 c3,.slice o4 n4 c4,.slice o5 n5 c5,.slice o6 n6 c6,.slice o7 n7 c7]] w fun e w'=>e=.returned (.bool (decide (4<n1∨8<n2∨8<n3∨50<n4∨50<n5∨50<n6∨60<n7)))∧Bd w w':=by
 obtain ⟨w0,m⟩:∃ w0,w.alloc (.cells #[.string n,Bb h,Bb t,.slice o1 n1 c1,.slice o2 n2 c2,.slice o3 n3 c3,.slice o4 n4 c4,.slice o5 n5 c5,.slice o6 n6 c6,.slice o7 n7 c7] 28)=w0:=⟨_,rfl⟩;have j:=hid (show Bd w w0 by rw [← m];exact (Bi _ _).alloc (Bj _) _)
 have d:=(show Row w0 w.heap.size 28 [.string n,Bb h,Bb t,.slice o1 n1 c1,.slice o2 n2 c2,.slice o3 n3 c3,.slice o4 n4 c4,.slice o5 n5 c5,.slice o6 n6 c6,.slice o7 n7 c7] by rw [← m];exact Row.new _ _ _)
 have k3:=d.cell 3;have k4:=d.cell 4;have k5:=d.cell 5;have k6:=d.cell 6;have k7:=d.cell 7;have k8:=d.cell 8;have k9:=d.cell 9;clear d
 by_cases h1:4<n1
 ·have e1:decide ((4:Int)<(n1:Int))=true:=by simp;omega
  go_in
  go_wp2
  all_goals (go_ret;refine ⟨Bl (fun b=>Ending.returned (.bool b)) ?_,j.out⟩;first | (rw [Di];simp;omega) | (simp;omega))
 ·have e1:decide ((4:Int)<(n1:Int))=false:=by simp;omega
  by_cases h2:8<n2
  ·have e2:decide ((8:Int)<(n2:Int))=true:=by simp;omega
   go_in
   go_wp2
   all_goals (go_ret;refine ⟨Bl (fun b=>Ending.returned (.bool b)) ?_,j.out⟩;first | (rw [Di];simp;omega) | (simp;omega))
  ·have e2:decide ((8:Int)<(n2:Int))=false:=by simp;omega
   by_cases h3:8<n3
   ·have e3:decide ((8:Int)<(n3:Int))=true:=by simp;omega
    go_in
    go_wp2
    all_goals (go_ret;refine ⟨Bl (fun b=>Ending.returned (.bool b)) ?_,j.out⟩;first | (rw [Di];simp;omega) | (simp;omega))
   ·have e3:decide ((8:Int)<(n3:Int))=false:=by simp;omega
    go_in
    go_wp2
    all_goals (go_ret;refine ⟨Bl (fun b=>Ending.returned (.bool b)) ?_,j.out⟩;first | (rw [Di];simp;omega) | (simp;omega))
def QhI (w:World) (row:List Value) (n:Nat) (X:Value) (W:World):Prop :=
 if n=9 then ∃ k,X=.slice (some ⟨k,0,none⟩) 7 7∧Row W k 55 row else if n=7 then ∃ g,X=Qox g∧w.heap.size≤g∧Qj3 W g none else ∃ g,X=Qow g∧w.heap.size≤g∧Qj2 W g none
theorem QhI.on {w:World} {b:List Value} {n:Nat} {X:Value} {W W':World} (h:QhI w b n X W) (hb:Bd W W'):QhI w b n X W':=by
 unfold QhI at *
 split
 ·rename_i e;rw [if_pos e] at h;exact ⟨_,h.choose_spec.1,h.choose_spec.2.below hb h.choose_spec.2.lt⟩
 rename_i e;rw [if_neg e] at h
 split
 ·rename_i e;rw [if_pos e] at h;obtain ⟨g,h1,h2,h3⟩:=h;exact ⟨g,h1,h2,h3.below hb⟩
 ·rename_i e;rw [if_neg e] at h;obtain ⟨g,h1,h2,h3⟩:=h;exact ⟨g,h1,h2,h3.below hb⟩
def chW:List Nat:=[11,12,15,16,19,20,23,24,25,26]
def JW (w:World) (row:List Value) (τ:Nat→Option Value) (W:World):Prop :=
 Bd w W∧∃ n,(∀ m k,chW[m]?=some k→(τ k=none↔n≤m))∧∀ m k X,n=m+1→m % 2=0→chW[m]?=some k→τ k=some X→QhI w row n X W
theorem JW.start {w:World} {b:List Value}:JW w b (fun _=>none) w.drew:=⟨(Bi _ _).drew,0,fun _ _ _=>by simp,fun _ _ _ h=>by omega⟩
theorem JW.skip {w:World} {b:List Value} {τ:Nat→Option Value} {W W':World} {k:Nat} (h:JW w b τ W) (hk:chW.contains k=false) (v:Value) (hb:Bd W W'):JW w b (QE τ k v) W':=by
 obtain ⟨h1,n,h2,h3⟩:=h
 have e:∀ m j,chW[m]?=some j→QE τ k v j=τ j:=fun m j hj=>if_neg fun e=>by
  subst e;have:=Bn hj;simp [this] at hk
 exact ⟨h1.trans (hb.mono h1.size),n,fun m j hj=>by rw [e m j hj];exact h2 m j hj,fun m j X hm he hj hX=>(h3 m j X hm he hj (by rw [← e m j hj];exact hX)).on hb⟩
theorem JW.step {w:World} {d:List Value} {τ:Nat→Option Value} {W:World} (h:JW w d τ W) (m:Nat) {k:Nat} (hk:chW[m]?=some k) (hn:τ k=none) (hp:∀ j k',m=j+1→chW[j]?=some k'→τ k'≠none):(∀ j k' X,m=j+1→j % 2=0→chW[j]?=some k'→τ k'=some X→QhI w d m X W)∧∀ v W',Bd w W'→(m % 2=0→QhI w d (m+1) v W')→JW w d (QE τ k v) W':=by
 obtain ⟨h1,n,h2,h3⟩:=h
 have A:n=m:=by
  have a:=(h2 m k hk).1 hn
  cases m with
  | zero=>omega
  | succ j =>
   have hj:j<chW.length:=by have:=(Bm.1 hk).1;omega
   have:=hp j _ rfl (Bk hj);rw [ne_eq,h2 j _ (Bk hj)] at this;omega
 subst A;refine ⟨fun j k' X=>h3 j k' X,fun v W' hb hv=>⟨hb,n+1,fun j k' hj=>?_,fun j k' X hj he z hX=>?_⟩⟩
 ·have q:k'=k→j=n:=fun e=>by
   subst e;have a:=(Bm.1 hj).1;have b:=(Bm.1 hk).1;exact (List.getElem_inj (show chW.Nodup by decide)).1 (by rw [(Bm.1 hj).2,(Bm.1 hk).2])
  by_cases e:k'=k
  ·obtain rfl:=q e
   subst e;simp [QE]
  ·rw [show QE τ k v k'=τ k' from if_neg e,h2 j k' hj]
   have:j≠n:=fun e'=>by subst e';rw [hk] at hj;exact e (Bu hj).symm
   omega
 ·obtain rfl:n=j:=by omega
  rw [hk] at z;obtain rfl:=Bu z;obtain rfl:v=X:=by simpa [QE] using hX
  exact hv he
def Qq0 (f:FuncId):Prop:=∀ (s:St) (v:Value) (N:Nat) (w:World),StV w N v s→N≤w.heap.size→s.fits →
 Calls prog f #[v] w fun e w'=>e=.returned (Bb (Qd s))∧Bd w w'
theorem Qa6:Qq0 7:=by
 intro s v N w hv hN m;obtain ⟨o1,c1,o2,c2,o3,c3,o4,c4,o5,c5,o6,c6,o7,c7,rfl,hm⟩:=hv.open;have HM:=hid (fun W (h:Bd w W)=>hm.below (h.mono hN))
 have HN:=hid (fun W (h:Bd w W)=>Bh hN h.size)
 have HF:=hid m;have z:=m.1;have HE:=hid (show Qd s=if Y7 s.name=false then 7 else if (Qs 0 s.height && Qs 0 s.time)=false then 3 else if Qav s=true then 5 else Qje s from rfl)
 clear hv hm m
 go_in
 go_upto_region 1 with fail
 refine JO ?_;intro w0 F hs;have k:=F.r0.cell
 cases hn:Y7 s.name with
 | false =>
  replace HE:=hid (HE.out.trans (if_pos hn))
  go_wp2_with (go_at_call 13;refine (QaX _ _ z).mono ?_;rintro e w' ⟨rfl,rfl⟩;rw [hn])
  go_ret;exact ⟨by rw [HE.out];rfl,F.b⟩
 | true =>
  replace HE:=hid (HE.out.trans (if_neg (by simp [hn])))
  go_upto_region 3 with (go_at_call 13;refine (QaX _ _ z).mono ?_;rintro e w' ⟨rfl,rfl⟩;rw [hn])
  clear hn
  by_cases hq:(Qs 0 s.height && Qs 0 s.time)=false
  ·replace HE:=hid (HE.out.trans (if_pos hq))
   cases q1:Qs 0 s.height <;> cases q2:Qs 0 s.time <;> simp [q1,q2] at hq
   all_goals
    go_wp2_with (go_at_call 14;refine (Jz _ _ _).mono ?_;rintro e w' ⟨rfl,rfl⟩;first | rw [q1] | rw [q2])
    go_ret;exact ⟨by rw [HE.out];rfl,F.b⟩
  ·replace HE:=hid (HE.out.trans (if_neg hq))
   obtain ⟨q1,q2⟩:Qs 0 s.height=true∧Qs 0 s.time=true:=by simpa using hq
   go_upto_region 5 with (go_at_call 14;refine (Jz _ _ _).mono ?_;rintro e w' ⟨rfl,rfl⟩;first | rw [q1] | rw [q2])
   clear hq q1 q2
   go_wp2_with (refine F.load 0 rfl Qa ?_)
   refine (QmE s.name s.height s.time o1 o2 o3 o4 o5 o6 o7 s.clients.length s.conns.length s.chans.length s.sent.length s.got.length s.acks.length s.purses.length c1 c2 c3 c4 c5 c6 c7 _).mono ?_;rintro e w1 ⟨rfl,q⟩;replace F:=F.go q;clear q k;rw [show decide (4<s.clients.length∨8<s.conns.length∨8<s.chans.length∨50<s.sent.length∨50<s.got.length∨50<s.acks.length∨60<s.purses.length)=Qav s from rfl]
   cases q3:Qav s with
   | true =>
    replace HE:=hid (HE.out.trans (if_pos q3));go_wp2;go_ret;exact ⟨by rw [HE.out];rfl,F.b⟩
   | false =>
    replace HE:=hid (HE.out.trans (if_neg (by simp [q3])))
    clear q3
    go_upto_region 7 with fail
    have d:=hid F;clear F;apply Qa3 (J:=JW w1 [Bb (Ju Qz s.clients),Bb (Ju Jf s.conns),Bb (Ju Q0 s.chans),Bb (QP s.sent),Bb (QP s.got),Bb (QP s.acks),Bb (QaG s.purses)]) (by kernel_rfl) (fun τ W h=>(d.out.go h.1).r0.cell) JW.start (by kernel_rfl)
    ·intro σ;simp [Qj];exact rfl
    iterate 2 (apply RJ.val (fun τ W h=>h.skip (by decide) _ (Bi _ _)) rfl;· intro σ W hc ⟨hd,hu⟩;simp at hd hu;go_simp;exact rfl)
    apply RJ.call (fun X=>X=Bb (Ju Qz s.clients)) rfl
    ·intro σ W τ hj _ _ _ ⟨hd,hu⟩
     simp at hd hu;refine ⟨_,_,by go_simp <;> first | exact rfl | exact ⟨rfl,rfl⟩,(QtK s.clients (.slice o1 s.clients.length c1) N W (HN.out _ (d.out.go hj.1).b) (HM.out _ (d.out.go hj.1).b).clients HF.out.2.1.1 HF.out.2.1.2).mono ?_⟩
     rintro e w' ⟨rfl,hb⟩;exact ⟨_,rfl,hj.skip (by decide) _ hb,rfl⟩
    iterate 2 (apply RJ.val (fun τ W h=>h.skip (by decide) _ (Bi _ _)) rfl;· intro σ W hc ⟨hd,hu⟩;simp at hd hu;go_simp;exact rfl)
    apply RJ.call (fun X=>X=Bb (Ju Jf s.conns)) rfl
    ·intro σ W τ hj _ _ _ ⟨hd,hu⟩
     simp at hd hu;refine ⟨_,_,by go_simp <;> first | exact rfl | exact ⟨rfl,rfl⟩,(QtL s.conns _ N W (HN.out _ (d.out.go hj.1).b) (HM.out _ (d.out.go hj.1).b).conns HF.out.2.2.1).mono ?_⟩
     rintro e w' ⟨rfl,hb⟩;exact ⟨_,rfl,hj.skip (by decide) _ hb,rfl⟩
    iterate 2 (apply RJ.val (fun τ W h=>h.skip (by decide) _ (Bi _ _)) rfl;· intro σ W hc ⟨hd,hu⟩;simp at hd hu;go_simp;exact rfl)
    apply RJ.call (fun X=>X=Bb (Ju Q0 s.chans)) rfl
    ·intro σ W τ hj _ _ _ ⟨hd,hu⟩
     simp at hd hu;refine ⟨_,_,by go_simp <;> first | exact rfl | exact ⟨rfl,rfl⟩,(QtJ s.chans _ N W (HN.out _ (d.out.go hj.1).b) (HM.out _ (d.out.go hj.1).b).chans HF.out.2.2.2.1).mono ?_⟩
     rintro e w' ⟨rfl,hb⟩;exact ⟨_,rfl,hj.skip (by decide) _ hb,rfl⟩
    iterate 2 (apply RJ.val (fun τ W h=>h.skip (by decide) _ (Bi _ _)) rfl;· intro σ W hc ⟨hd,hu⟩;simp at hd hu;go_simp;exact rfl)
    apply RJ.call (fun _=>True) rfl
    ·intro σ W τ hj _ ha hn ⟨hd,hu⟩
     simp at hd hu;refine ⟨_,_,by go_simp <;> first | exact rfl | exact ⟨rfl,rfl⟩,(QhY W).mono ?_⟩
     rintro e w' ⟨rfl,hb,hR⟩;exact ⟨_,rfl,(hj.step 0 rfl hn (by rintro j k ⟨⟩)).2 _ _ (hj.1.trans (hb.mono hj.1.size)) fun _=>⟨_,rfl,hj.1.size,hR⟩,trivial⟩
    apply RJ.call (fun X=>X=Bb (QP s.sent)) rfl
    ·intro σ W τ hj _ ha hn ⟨hd,hu⟩
     have hp:=ha ⟨11,.data⟩ (by simp) rfl
     obtain ⟨h1,h2⟩:=hj.step 1 rfl hn (by rintro j k ⟨⟩ ⟨⟩;rw [hp];simp)
     obtain ⟨g,e,hg,hR⟩:=h1 _ _ _ rfl rfl rfl hp;simp [e] at hd hu;refine ⟨_,_,by go_simp <;> first | exact rfl | exact ⟨rfl,rfl⟩,(Qj6 s.sent _ N g W hR (Bh (HN.out _ d.out.b) hg) (HM.out _ (d.out.go hj.1).b).sent HF.out.2.2.2.2.1.1).mono ?_⟩
     rintro e w' ⟨rfl,hb⟩;exact ⟨_,rfl,h2 _ _ (hj.1.trans (hb.mono hg)) fun h=>absurd h (by decide),rfl⟩
    iterate 2 (apply RJ.val (fun τ W h=>h.skip (by decide) _ (Bi _ _)) rfl;· intro σ W hc ⟨hd,hu⟩;simp at hd hu;go_simp;exact rfl)
    apply RJ.call (fun _=>True) rfl
    ·intro σ W τ hj _ ha hn ⟨hd,hu⟩
     simp at hd hu;refine ⟨_,_,by go_simp <;> first | exact rfl | exact ⟨rfl,rfl⟩,(QhY W).mono ?_⟩
     rintro e w' ⟨rfl,hb,hR⟩;exact ⟨_,rfl,(hj.step 2 rfl hn (by rintro j k ⟨⟩ ⟨⟩;rw [ha ⟨12,.chain⟩ (by simp) rfl];simp)).2 _ _ (hj.1.trans (hb.mono hj.1.size)) fun _=>⟨_,rfl,hj.1.size,hR⟩,trivial⟩
    apply RJ.call (fun X=>X=Bb (QP s.got)) rfl
    ·intro σ W τ hj _ ha hn ⟨hd,hu⟩
     have hp:=ha ⟨15,.data⟩ (by simp) rfl
     obtain ⟨h1,h2⟩:=hj.step 3 rfl hn (by rintro j k ⟨⟩ ⟨⟩;rw [hp];simp)
     obtain ⟨g,e,hg,hR⟩:=h1 _ _ _ rfl rfl rfl hp;simp [e] at hd hu;refine ⟨_,_,by go_simp <;> first | exact rfl | exact ⟨rfl,rfl⟩,(Qj6 s.got _ N g W hR (Bh (HN.out _ d.out.b) hg) (HM.out _ (d.out.go hj.1).b).got HF.out.2.2.2.2.2.1.1).mono ?_⟩
     rintro e w' ⟨rfl,hb⟩;exact ⟨_,rfl,h2 _ _ (hj.1.trans (hb.mono hg)) fun h=>absurd h (by decide),rfl⟩
    iterate 2 (apply RJ.val (fun τ W h=>h.skip (by decide) _ (Bi _ _)) rfl;· intro σ W hc ⟨hd,hu⟩;simp at hd hu;go_simp;exact rfl)
    apply RJ.call (fun _=>True) rfl
    ·intro σ W τ hj _ ha hn ⟨hd,hu⟩
     simp at hd hu;refine ⟨_,_,by go_simp <;> first | exact rfl | exact ⟨rfl,rfl⟩,(QhY W).mono ?_⟩
     rintro e w' ⟨rfl,hb,hR⟩;exact ⟨_,rfl,(hj.step 4 rfl hn (by rintro j k ⟨⟩ ⟨⟩;rw [ha ⟨16,.chain⟩ (by simp) rfl];simp)).2 _ _ (hj.1.trans (hb.mono hj.1.size)) fun _=>⟨_,rfl,hj.1.size,hR⟩,trivial⟩
    apply RJ.call (fun X=>X=Bb (QP s.acks)) rfl
    ·intro σ W τ hj _ ha hn ⟨hd,hu⟩
     have hp:=ha ⟨19,.data⟩ (by simp) rfl
     obtain ⟨h1,h2⟩:=hj.step 5 rfl hn (by rintro j k ⟨⟩ ⟨⟩;rw [hp];simp)
     obtain ⟨g,e,hg,hR⟩:=h1 _ _ _ rfl rfl rfl hp;simp [e] at hd hu;refine ⟨_,_,by go_simp <;> first | exact rfl | exact ⟨rfl,rfl⟩,(Qj6 s.acks _ N g W hR (Bh (HN.out _ d.out.b) hg) (HM.out _ (d.out.go hj.1).b).acks HF.out.2.2.2.2.2.2.1.1).mono ?_⟩
     rintro e w' ⟨rfl,hb⟩;exact ⟨_,rfl,h2 _ _ (hj.1.trans (hb.mono hg)) fun h=>absurd h (by decide),rfl⟩
    iterate 2 (apply RJ.val (fun τ W h=>h.skip (by decide) _ (Bi _ _)) rfl;· intro σ W hc ⟨hd,hu⟩;simp at hd hu;go_simp;exact rfl)
    apply RJ.call (fun _=>True) rfl
    ·intro σ W τ hj _ ha hn ⟨hd,hu⟩
     simp at hd hu;refine ⟨_,_,by go_simp <;> first | exact rfl | exact ⟨rfl,rfl⟩,(QsO W).mono ?_⟩
     rintro e w' ⟨rfl,hb,hR⟩;exact ⟨_,rfl,(hj.step 6 rfl hn (by rintro j k ⟨⟩ ⟨⟩;rw [ha ⟨20,.chain⟩ (by simp) rfl];simp)).2 _ _ (hj.1.trans (hb.mono hj.1.size)) fun _=>⟨_,rfl,hj.1.size,hR⟩,trivial⟩
    apply RJ.call (fun X=>X=Bb (QaG s.purses)) rfl
    ·intro σ W τ hj _ ha hn ⟨hd,hu⟩
     have hp:=ha ⟨23,.data⟩ (by simp) rfl
     obtain ⟨h1,h2⟩:=hj.step 7 rfl hn (by rintro j k ⟨⟩ ⟨⟩;rw [hp];simp)
     obtain ⟨g,e,hg,hR⟩:=h1 _ _ _ rfl rfl rfl hp;simp [e] at hd hu;refine ⟨_,_,by go_simp <;> first | exact rfl | exact ⟨rfl,rfl⟩,(QtM s.purses _ N g W hR (Bh (HN.out _ d.out.b) hg) (HM.out _ (d.out.go hj.1).b).purses HF.out.2.2.2.2.2.2.2.1).mono ?_⟩
     rintro e w' ⟨rfl,hb⟩;exact ⟨_,rfl,h2 _ _ (hj.1.trans (hb.mono hg)) fun h=>absurd h (by decide),rfl⟩
    apply RJ.new rfl
    ·intro σ W τ hj _ ha hn ⟨hd,hu⟩
     simp at hd hu;refine ⟨_,_,by go_simp,(hj.step 8 rfl hn (by rintro j k ⟨⟩ ⟨⟩;rw [ha ⟨24,.data⟩ (by simp) rfl];simp)).2 _ _ (hj.1.alloc hj.1.size _) fun _=>⟨_,rfl,Row.new _ _ _⟩⟩
    apply RJ.call (fun X=>X=Bb (Qje s)) rfl
    ·intro σ W τ hj _ ha hn ⟨hd,hu⟩
     have hp:=ha ⟨25,.data⟩ (by simp) rfl
     obtain ⟨h1,h2⟩:=hj.step 9 rfl hn (by rintro j k ⟨⟩ ⟨⟩;rw [hp];simp)
     obtain ⟨g,e,hR⟩:=h1 _ _ _ rfl rfl rfl hp;simp at hd hu;refine ⟨_,_,by go_simp <;> first | exact rfl | exact ⟨rfl,rfl⟩,(Qua [Ju Qz s.clients,Ju Jf s.conns,Ju Q0 s.chans,QP s.sent,QP s.got,QP s.acks,QaG s.purses] g 7 _ W hR rfl (by decide)).mono ?_⟩
     rintro e w' ⟨rfl,rfl⟩;exact ⟨_,rfl,h2 _ _ hj.1 fun h=>absurd h (by decide),rfl⟩
    apply RJ.val (fun τ W h=>h.skip (by decide) _ (Bi _ _)) rfl;· intro σ W hc ⟨hd,hu⟩;simp at hd hu;go_simp;exact rfl
    intro σ W τ _ hj _;simp only [Jm,Bv,By,Nat.reduceAdd];intro hF;have e:σ 27=Bb (Qje s):=hF.2.2.2.2.2.2.2.2.2.2.2.2.2.2.2.2.2.2.2.2.2.2.2.2.2.2.2.1;rw [e];clear hF;go_wp2;go_ret;exact ⟨by rw [HE.out];rfl,(d.out.go hj.1).b⟩
end Go.Proofs.YtnedafiokmjkkaaGreatDoor
