/- Plain mathematics of validators, headers and votes. -/
import Derived.Test.YtnedafiokmjkkaaGreatDoorsaSealGood
import Derived.Test.YtnedafiokmjkkaaGreatDoorsaWireBoth
import Derived.Laws.Tables
import Derived.Laws.Rows
import Derived.Deep.MidRow
import Derived.BigFrame
namespace Go.Proofs.YtnedafiokmjkkaaGreatDoor
open Tryz
set_option maxRecDepth 1000000
set_option maxHeartbeats 8000000
open Go.RowKit
variable {W w w' w1:World} {B N g i k n:Nat} {c0 sv v v1 v2 v3 v4 v5 v6 v7:Value} {rs:List (List Value)} {oa:Option Addr} {st t t0 ty:TypeId} {o:Oper} {a:Act} {K:Act→World→Prop} {Q:Exit→Act→World→Prop} {cs r xs:List Value} {P:Program} {x y:Operand} {f:FuncId} {R:Ending→World→Prop} {fn:Func} {ev:Operand→Value} {l:List (BitVec 8)}
def Ja (w:World) (N:Nat) (sv:Value) (k:Nat) (rs:List (List Value)):Prop :=
  (sv=Bc∧rs=[])∨(∃ a cap,sv=.slice (some a) 0 cap∧rs=[]) ∨
  ∃ b off cap,sv=.slice (some ⟨b,off,none⟩) rs.length cap∧rs.length≤cap∧∀ i r,rs[i]?=some r→b<N∧∀ j x,r[j]?=some x→w.cell? ⟨b,off+i*k+j,none⟩=some x
theorem Ja.shape (h:Ja w N sv k rs):∃ oa b,sv=.slice oa rs.length b∧rs.length≤b:=by grind [Ja]
theorem Ja.spot {m:Nat} (h:Ja w N (.slice oa n m) k rs) (hl:0<n) :
    ∃ b e,oa=some ⟨b,e,none⟩∧∀ i r,rs[i]?=some r→b<N∧∀ j x,r[j]?=some x→w.cell? ⟨b,e+i*k+j,none⟩=some x:=by grind [Ja]
theorem Ja.below (h:Ja w N sv k rs) (hg:Below N w w'):Ja w' N sv k rs:=by
  rcases h with h | h | ⟨b,off,cap,h1,h2,h3⟩
  · exact .inl h
  · exact .inr (.inl h)
  · refine .inr (.inr ⟨b,off,cap,h1,h2,fun i r hr=>?_⟩)
    obtain ⟨hb,hc⟩:=h3 i r hr;exact ⟨hb,fun j x hx=>(hg.cell hb).trans (hc j x hx)⟩
theorem Ja.mono (h:Ja w N sv k rs) (hN:N≤g):Ja w g sv k rs:=by grind [Ja]
theorem Qbo {k:Nat}:∀ (rs:List (List Value)) (i j:Nat) (r:List Value),(∀ r∈rs,r.length=k)→rs[i]?=some r→j<k→rs.flatten[i*k+j]?=r[j]?
  | [],i,j,r,_,h,_=>by simp at h
  | a :: rs,i,j,r,hk,h,hj=>by
    have ha:=hk a Ci;rw [CH]
    cases i with
    | zero =>
      obtain rfl:a=r:=by simp_all
      rw [CR,Bq,Cw (by omega)]
    | succ i =>
      rw [CY (by rw [ha,BJ];omega),ha,show (i+1)*k+j-k=i*k+j by rw [BJ];omega]
      exact Qbo rs i j r (fun r hr=>hk r (Cr _ hr)) (by simpa using h) hj
theorem Qe8 {base e:Nat} (h:w.ownsRow base e k v rs.length rs.flatten) (hk:∀ r∈rs,r.length=k):Ja w w.heap.size v k rs:=by
  obtain ⟨h1,h2⟩:=h
  rcases h2 with ⟨rfl,h0⟩ | ⟨g,b,m,rfl,_,hg,hn,_,hc,hx⟩
  · exact .inl ⟨rfl,CD.1 h0⟩
  · refine .inr (.inr ⟨g,0,b,rfl,hn,fun i r hr=>⟨(BP.1 hg).1,fun j x hj=>?_⟩⟩)
    have z:j<k:=by
      have:=(Bm.1 hj).1;rw [hk r (Bn hr)] at this;exact this
    have q:i<rs.length:=(Bm.1 hr).1;rw [CC w g _ m _ _ hg,Bq,← hj,← Qbo rs i j r hk hr z,← hx,BE,if_pos,Dn];have:(i+1)*k≤rs.length*k:=Ct k q;rw [BJ] at this;omega
theorem Ja.source {x:Value} (h:Ja w N x k rs) (hk:∀ r∈rs,r.length=k) (h0:0<k) :
    (x=Bc∧rs=[])∨∃ ad m,x=.slice (some ad) rs.length m∧∀ j v,rs.flatten[j]?=some v→w.cell? (ad.add j)=some v:=by
  rcases h with h | ⟨a,m,rfl,rfl⟩ | ⟨b,off,m,rfl,_,hc⟩
  · exact .inl h
  · exact .inr ⟨a,m,rfl,fun j v hv=>by simp at hv⟩
  · refine .inr ⟨_,m,rfl,fun j v hv=>?_⟩
    have q:(⟨b,off,none⟩:Addr).add j=⟨b,off+j,none⟩:=by unfold Addr.add;split <;> simp_all
    have z:rs.flatten.length=rs.length*k:=by
      rw [List.length_flatten]
      have:∀ (l:List (List Value)),(∀ r∈l,r.length=k)→(l.map List.length).sum=l.length*k:=by
        intro l
        induction l with
        | nil=>simp
        | cons a l ih =>
          intro h;rw [CG,List.sum_cons,ih (fun r hr=>h r (Cr _ hr)),h a Ci,Cy,BJ]
          omega
      exact this rs hk
    have hj:j<rs.length*k:=by rw [← z];exact (Bm.1 hv).1
    have hi:j / k<rs.length:=Nat.div_lt_of_lt_mul (by rw [Cz];exact hj)
    obtain ⟨r,hr⟩:∃ r,rs[j / k]?=some r:=⟨_,Bk hi⟩;have e:j / k*k+j % k=j:=Nat.div_add_mod' j k;rw [← e,Qbo rs (j / k) (j % k) r hk hr (CQ _ h0)] at hv;have:=(hc (j / k) r hr).2 _ _ hv;rw [q]
    rwa [Dl,e] at this
def Qf (t:TypeId) (k:Nat) (w:World) (base:Nat) (v:Value) (rs:List (List Value)):Prop:=(∀ r∈rs,r.length=k∧∀ x∈r,x.oneCell'=true)∧w.ownsRow base t k v rs.length rs.flatten
theorem Qf.shape {base:Nat} (h:Qf t k w base v rs):∃ oa b,v=.slice oa rs.length b∧rs.length≤b:=by
  obtain ⟨_,_,h2⟩:=h
  rcases h2 with ⟨h3,h4⟩ | ⟨g,b,cur,h3,_,_,h4,_⟩
  · simp_all
  · grind
theorem Qf.below {base:Nat} (h:Qf t k w base v rs) (hg:Bd w w'):Qf t k w' base v rs:=⟨h.1,QW h.2 hg⟩
theorem Qf.mono {base base':Nat} (h:Qf t k w base v rs) (hb:base'≤base):Qf t k w base' v rs:=by
  obtain ⟨h0,h1,h2⟩:=h;refine ⟨h0,h1,?_⟩
  rcases h2 with h2 | ⟨g,cap,cur,h3,h4,h5⟩
  · simp_all
  · exact .inr ⟨g,cap,cur,h3,Bh hb h4,h5⟩
theorem Qf.own {base:Nat} (h:Qf t k w base v rs):∀ g,v.ownBlock=some g→base≤g∧g<w.heap.size:=fun g hg=>C3 h.2 g hg
theorem Qf.recs {base:Nat} (h:Qf t k w base v rs):Ja w w.heap.size v k rs:=by grind [Qf,Qe8]
theorem Qf.keep {base:Nat} (h:Qf t k w base v rs) (hk:∀ g,v.ownBlock=some g→w'.heap[g]?=w.heap[g]?):Qf t k w' base v rs:=by
  obtain ⟨h0,h1,h2⟩:=h;refine ⟨h0,h1,?_⟩
  rcases h2 with h2 | ⟨g,cap,cur,h3,h4,h5,h6⟩
  · exact .inl h2
  · exact .inr ⟨g,cap,cur,h3,h4,(hk g (by rw [h3];rfl)).trans h5,h6⟩
theorem QbP (h:∀ r∈rs,r.length=k∧∀ x∈r,x.oneCell'=true):∀ u∈rs.flatten,u.oneCell'=true:=by grind [List.mem_flatten]
def QcP (t st:TypeId) (k:Nat):Prop:=prog.underlying st=some (.slice t)∧∃ i z B,prog.info? t=some i∧i.zero=some z∧i.size=k∧i.bytes=B∧z.cells.size=k∧0<k∧B≤1000
theorem QdB {z:Value} (hu:prog.underlying st=some (.slice t)) (hi:(prog.info? t).map (fun i=>(i.zero,i.size,i.bytes))=some (some z,k,B)) (hz:z.cells.size=k) (h0:0<k) (hB:B≤1000):QcP t st k:=by
  obtain ⟨i0,b,e,j,m⟩:=Cg hi;exact ⟨hu,i0,z,B,b,e,j,m,hz,h0,hB⟩
theorem QoB (hF:QcP t st k) (s x:Operand)
    (ho:o.op=.call { callee:=.builtin .append,args:=#[s,x],argTypes:=#[st,st] })
    (base:Nat) (v:Value) (rs:List (List Value)) (hs:a.eval s=v) (b:Qf t k W base v rs) (sv:Value) (qs:List (List Value)) {M:Nat} (hx:a.eval x=sv) (A:Ja W M sv k qs)
    (j:∀ r∈qs,r.length=k∧∀ x∈r,x.oneCell'=true) (hl:rs.length+qs.length≤1000000) (e:base≤W.heap.size)
    (h:∀ v' w',Qf t k w' base v' (rs ++ qs)→Below base W w'→W.grownBy w' v.ownBlock→K (a.put o.dst v') w'):o.wp prog a W K Q:=by
  obtain ⟨hu,i0,z,B,m,G,I,L,O,h0,hB⟩:=hF
  rcases A.source (fun r hr=>(j r hr).1) h0 with ⟨rfl,rfl⟩ | ⟨ad,C,rfl,E⟩
  · have q:=run_append_owned_none (P:=prog) (w:=W) base st o.type t i0 k hu m v rs.length rs.flatten b.2
    unfold Oper.wp;simp [execOp,ho,resolve,invoke,builtin,hs,hx,q,Result.andThen];exact h v W (by simpa using b) (Bi _ _) (YT _ _)
  · have D:(rs.length+qs.length)*B≤140737488355328:=by
      have h1:=CK hl hB;omega
    refine wp_append_own W s x st ho base t i0 z k B hu m G I L O h0 v rs.length rs.flatten hs b.2 ad qs.length C qs.flatten hx (YE qs (fun r hr=>(j r hr).1)) E (QbP j) (by unfold maxLen;omega) D e ?_
    intro v' w' h1 h2 _;refine h v' w' ⟨fun r hr=>?_,?_⟩ ((Bi base W).grown h2 e (fun k hk=>(C3 b.2 k hk).1)) h2
    · rcases Bw.1 hr with hr | hr
      · exact b.1 r hr
      · exact j r hr
    · rw [Br,CX]
      exact h1
theorem Qdo (hF:QcP t st k) {m:Array Oper} {rest:List Oper} (q:o.guard=none) (s x:Operand)
    (ho:o.op=.call { callee:=.builtin .append,args:=#[s,x],argTypes:=#[st,st] })
    (base:Nat) (v:Value) (rs:List (List Value)) (hs:a.eval s=v) (e:Qf t k W base v rs) (sv:Value) (qs:List (List Value)) {M:Nat} (hx:a.eval x=sv) (j:Ja W M sv k qs)
    (z:∀ r∈qs,r.length=k∧∀ x∈r,x.oneCell'=true) (hl:rs.length+qs.length≤1000000) (b:base≤W.heap.size)
    (h:∀ v' w',Qf t k w' base v' (rs ++ qs)→Below base W w'→W.grownBy w' v.ownBlock→wpList prog m Q rest (a.put o.dst v') w'):wpList prog m Q (o :: rest) a W :=
  CW q fun _ hK=>QoB hF s x ho base v rs hs e sv qs hx j z hl b fun v' w' h1 h2 h3=>hK _ _ (h v' w' h1 h2 h3)
theorem ZO (hF:QcP t st k) {D:Array Oper} {rest:List Oper} (I:o.guard=none) (s x:Operand)
    (ho:o.op=.call { callee:=.builtin .append,args:=#[s,x],argTypes:=#[st,st] })
    (base:Nat) (v:Value) (rs:List (List Value)) (hs:a.eval s=v) (m:Qf t k W base v rs) (ad:Addr) (c:Nat) (r:List Value) {M:Nat} (hx:a.eval x=.slice (some ad) 1 c) (C:Ja W M (.slice (some ad) 1 c) k [r])
    (A:∀ q∈[r],q.length=k∧∀ x∈q,x.oneCell'=true) (hl:rs.length≤100000) (j:base≤W.heap.size)
    (h:∀ g b w',Qf t k w' base (.slice (some ⟨g,0,none⟩) (rs.length+1) b) (rs ++ [r])→Below base W w'→W.grownBy w' v.ownBlock→(v.ownBlock=some g∨g=W.heap.size)→wpList prog D Q rest (a.put o.dst (.slice (some ⟨g,0,none⟩) (rs.length+1) b)) w'):wpList prog D Q (o :: rest) a W:=by
  obtain ⟨hu,i0,z,B,L,O,S,T,Y,h0,hB⟩:=hF
  rcases C.source (fun r hr=>(A r hr).1) h0 with ⟨e,_⟩ | ⟨ad',b,e,G⟩
  · cases e
  · simp only [List.length_singleton,DH,C4] at e
    obtain ⟨rfl,-,rfl⟩:=e
    have E:(rs.length+1)*B≤140737488355328:=by
      have h1:=CK (show rs.length+1≤100001 by omega) hB
      omega
    refine wpList_append_lies W I s x st ho base t i0 z k B hu L O S T Y h0 v rs.length rs.flatten hs m.2 ad 1 c [r].flatten hx (by simp [(A r (by simp)).1]) G (QbP A) (by decide) (by unfold maxLen;omega) E j W.heap.size rfl ?_
    intro g b w' h1 h2 h3 _;refine h g b w' ⟨fun q hq=>?_,?_⟩ ((Bi base W).grown h2 j (fun k hk=>(C3 m.2 k hk).1)) h2 h3
    · rcases Bw.1 hq with hq | hq
      · exact m.1 q hq
      · exact A q hq
    · rw [Br,CX]
      exact h1
theorem QgJ (h:Row W g t r):Ja W (g+1) (.slice (some ⟨g,0,none⟩) 1 1) k [r]:=by
  refine .inr (.inr ⟨g,0,1,rfl,Bj _,fun i r' hr=>?_⟩)
  have hi:i=0:=by have:=(Bm.1 hr).1;simp at this;exact this
  subst hi;obtain rfl:r=r':=by simpa using hr
  refine ⟨by omega,fun j x hx=>?_⟩
  rw [h.cell,show 0+0*k+j=j by omega]
  exact hx
theorem Qf.row {base:Nat} {ps:List (List Value)} (h:Qf t k w base v ps) (h0:0<ps.length):∃ g c cs,v=.slice (some ⟨g,0,none⟩) ps.length c∧base≤g∧Row w g t cs∧ps.length≤c∧c≤maxLen∧cs.length=c*k∧cs.take (ps.length*k)=ps.flatten:=by
  obtain ⟨_,h1,h2⟩:=h
  rcases h2 with ⟨_,h3⟩ | ⟨g,c,b,h3,h4,h5,h6,h7,h8,h9⟩
  · omega
  · exact ⟨g,c,b.toList,h3,h4,h5,h6,h7,by simpa using h8,h9⟩
theorem Qf.of_row {base c:Nat} {ps:List (List Value)} (b:∀ r∈ps,r.length=k∧∀ x∈r,x.oneCell'=true) (hb:base≤g) (hr:Row w g t cs) (hn:n=ps.length) (hc:n≤c) (hm:c≤maxLen) (hl:cs.length=c*k) (ht:cs.take (n*k)=ps.flatten):Qf t k w base (.slice (some ⟨g,0,none⟩) n c) ps:=by
  subst hn;exact ⟨b,YE ps (fun r hr=>(b r hr).1),.inr ⟨g,c,cs.toArray,rfl,hb,hr,hc,hm,by simpa using hl,ht⟩⟩
theorem Qn7: QcP 90 25 3:=QdB (z:=.agg #[Bb 0,Bb 0,Bc]) (B:=40) underlying25 (by kernel_rfl) rfl (by decide) (by decide)
theorem Qrg (g o j:Nat):(⟨g,o,none⟩:Addr).add j=⟨g,o+j,none⟩:=by unfold Addr.add;split <;> simp_all
def okR (k:Nat) (ps:List (List Value)):Prop:=∀ r∈ps,r.length=k∧∀ x∈r,x.oneCell'=true
theorem QoM (hF:QcP t st k) {o b m m' sc:Nat} (hr:Row w g t cs) (hs:Row w b t xs) (hv:r.length=m*k) (hg:∀ j u,r[j]?=some u→xs[i+j]?=some u) (hl:o+m*k≤cs.length) (h1:∀ u∈r,u.oneCell'=true) (e:Nat.min m' n=m) :
    ∀ ty,(Builtin.copy_ #[st,st] ty #[.slice (some ⟨g,o,none⟩) n N,.slice (some ⟨b,i,none⟩) m' sc]).run prog w=.ok (goInt (m:Int)) (w.setCells g o r):=fun ty=>by
  obtain ⟨hu,i0,z,B,q,hz0,A,-⟩:=hF
  have:=QiX (P:=prog) w st st ty t k g o n N ⟨b,i,none⟩ m' sc r hu (by rw [q];exact Bl some A) (by rw [e];exact hv) (fun j u hj=>by rw [Qrg,hs.cell];exact hg j u hj)
    (fun j hj=>by rw [hr.cell,Bk (by omega)];rfl) (fun j _=>hr.frozen _) h1
  rw [e] at this;exact this
theorem okR.flat {ps:List (List Value)} (h:okR k ps):ps.flatten.length=ps.length*k:=YE ps fun r hr=>(h r hr).1
theorem Qp2 (hF:QcP t st k) {ps:List (List Value)} {base c:Nat} (A:base≤g) (z:Row w g t cs) (E:cs.length=c*k) (O:c≤maxLen) (M:cs.take (ps.length*k)=ps.flatten) (b:okR k ps) (hv:Row w N t r) (h1:okR k [r]) (T:N≠g) (hi:i<ps.length) (q:ps.length+1≤c) :
    ∃ W1 W2,(∀ dc sc ty,(Builtin.copy_ #[st,st] ty #[.slice (some ⟨g,(i+1)*k,none⟩) (ps.length-i) dc,.slice (some ⟨g,i*k,none⟩) (ps.length+1-i) sc]).run prog w.drew=.ok (goInt ((ps.length-i:Nat):Int)) W1) ∧
      (∀ dc ty,(Builtin.copy_ #[st,st] ty #[.slice (some ⟨g,i*k,none⟩) (ps.length+1-i) dc,.slice (some ⟨N,0,none⟩) 1 1]).run prog W1=.ok (goInt ((1:Nat):Int)) W2)∧w.grownBy W2 (some g)∧Qf t k W2 base (.slice (some ⟨g,0,none⟩) (ps.length+1) c) (Qc3 ps i r):=by
  obtain ⟨D,I⟩:=h1 r (BQ.2 rfl);have S:=b.flat;have e1:(i+1)*k=i*k+k:=BJ i k;have e2:(ps.length-i)*k=ps.length*k-i*k:=Nat.sub_mul ..;have e3:(i+1)*k≤ps.length*k:=Ct k hi;have e4:(ps.length+1)*k≤c*k:=Ct k q;have e5:(ps.length+1)*k=ps.length*k+k:=BJ ..;have C:(ps.flatten.drop (i*k)).length=ps.length*k-i*k:=by rw [Dd,S]
  have L:=Row.setCells (ps.flatten.drop (i*k)) ((i+1)*k) _ _ z.drew (by rw [C];omega)
  have e:(QaO cs ((i+1)*k) (ps.flatten.drop (i*k))).length=c*k:=by rw [YU _ _ _ (by rw [C];omega),E]
  have G:w.grownBy (w.drew.setCells g ((i+1)*k) (ps.flatten.drop (i*k))) (some g):=Qo (⟨rfl,rfl,rfl,Bj _,fun _ _ _=>rfl⟩:w.grownBy w.drew _) (Jc g _ _ w.drew)
  refine ⟨_,_,fun dc sc=>QoM hF z.drew z.drew (C.trans e2.symm) (fun j u hj=>?_) (by rw [E,e2];omega) (fun u hu=>QbP b u (Dt hu)) (by simp only [Nat.min_def];split <;> omega),fun dc=>QoM hF L (hv.grown G (by simpa using T)) (m:=1) (by rw [D,C1]) (fun j u hj=>by rwa [Bq]) (by rw [e];omega) I (by simp only [Nat.min_def];split <;> omega),
    Qo G (Jc g _ _ _),Qf.of_row (Ql3 b ⟨D,I⟩) A (Row.setCells _ _ _ _ L (by rw [e];omega)) (by rw [Qge _ _ _ (by omega)]) q O (by rw [YU _ _ _ (by rw [e];omega),e]) ?_⟩
  · rw [Co] at hj
    exact ZG M _ u hj
  · rw [QbU _ _ _ (by rw [e];omega) _ (by omega),Qfa _ _ _ (by omega) _ (by omega),D,← e1,QqE _ _ _ (by omega),DD (by omega),show (ps.flatten.drop (i*k)).take _=_ from BA (by omega),Qjx (fun r hr=>(b r hr).1),← M,List.take_take,DI (by omega)]
theorem Qr2 (hF:QcP t st k) {ps:List (List Value)} {base c:Nat} (hbase:base≤g) (b:Row w g t cs) (aD:cs.take (ps.length*k)=ps.flatten) (e:okR k ps) (hv:Row w N t r) (h1:okR k [r]) (hi:i<ps.length) (hnc:ps.length≤c) (M:c<ps.length+1) (hl:ps.length≤1000) :
    ∃ G W1 W2 W3,ps.length+1≤G∧(∀ ty,(Builtin.append_ #[st,3] ty #[.slice (some ⟨g,0,none⟩) i c,Bb ((ps.length:Int)+1-(i:Int))]).run prog w=.ok (.slice (some ⟨w.heap.size,0,none⟩) (ps.length+1) G) W1) ∧
      (∀ dc ty,(Builtin.copy_ #[st,st] ty #[.slice (some ⟨w.heap.size,i*k,none⟩) (ps.length+1-i) dc,.slice (some ⟨N,0,none⟩) 1 1]).run prog W1=.ok (goInt ((1:Nat):Int)) W2) ∧
      (∀ dc sc ty,(Builtin.copy_ #[st,st] ty #[.slice (some ⟨w.heap.size,(i+1)*k,none⟩) (ps.length-i) dc,.slice (some ⟨g,i*k,none⟩) (ps.length-i) sc]).run prog W2.drew=.ok (goInt ((ps.length-i:Nat):Int)) W3)∧w.grownBy W3 (some g)∧Qf t k W3 base (.slice (some ⟨w.heap.size,0,none⟩) (ps.length+1) G) (Qc3 ps i r):=by
  obtain ⟨L,aA⟩:=h1 r (BQ.2 rfl);obtain ⟨hu,i0,z,B,aJ,aM,aO,aF,aN,hk0,hB⟩:=id hF;have S:=e.flat;have e1:(i+1)*k=i*k+k:=BJ i k;have e2:(ps.length-i)*k=ps.length*k-i*k:=Nat.sub_mul ..;have e3:(i+1)*k≤ps.length*k:=Ct k hi;have e5:(ps.length+1)*k=ps.length*k+k:=BJ ..;have C:(ps.flatten.take (i*k)).length=i*k:=by rw [C2,S];omega
  have Y:(Builtin.firstCells i0.size i (.slice (some ⟨g,0,none⟩) i c)).run prog w.drew=.ok (ps.flatten.take (i*k)).toArray w.drew:=by
    rw [aO];refine run_firstCells_some w.drew k i ⟨g,0,none⟩ i c _ C fun j u hj=>?_
    rw [Qrg,Bq,b.drew.cell];rw [BE] at hj
    split at hj
    · exact ZG aD _ u hj
    · cases hj
  have E:=Du w (ps.length+1) c t;have aG:=DJ w (ps.length+1) c t (by unfold maxLen;omega)
  have aH:(ps.length+1)*B≤140737488355328:=Bh (CK (show ps.length+1≤1001 by omega) hB) (by decide)
  have I:=fun ty=>Lib.run_append_grow_zeros w st 3 ty t i0 z .i64 .i64 hu underlying3 aJ aM (some ⟨g,0,none⟩) i c _ Y (ps.length+1-i) (by omega) (by omega) (by omega) (by omega) (by rw [aF];exact Bh (CK (show ps.length+1-i≤1001 by omega) hB) (by decide)) (by rw [aF,show i+(ps.length+1-i)=ps.length+1 by omega];exact growslice_fits M aH)
  rw [show i+(ps.length+1-i)=ps.length+1 by omega,show ((ps.length+1-i:Nat):Int)=(ps.length:Int)+1-(i:Int) by omega] at I
  generalize hG:grownCap w (ps.length+1) c t=G at *;have eG:(ps.length+1)*k≤G*k:=Ct k E;generalize O:w.drew.alloc _=W1 at I
  obtain ⟨R0,D,aK,aE⟩:∃ R0,Row W1 w.heap.size t R0∧R0.length=G*k∧R0.take (i*k)=ps.flatten.take (i*k):=by
    refine ⟨((ps.flatten.take (i*k)).toArray ++ Builtin.zeroCells z.cells (ps.length+1-i) ++ Builtin.zeroCells z.cells (G-(ps.length+1))).toList,?_,?_,?_⟩
    · rw [← O]
      exact Row.new w.drew t _
    · simp only [DK,Br,D3,Dv,aN,C,← C0]
      rw [show i+(ps.length+1-i)+(G-(ps.length+1))=G by omega]
    · rw [DK,DK,Cj,DD (Ds C.symm),BA (Ds C)]
  have q:Bd w W1:=by
    rw [← O];exact (show Bd w w.drew from ⟨rfl,rfl,rfl,Bj _,fun _ _=>rfl⟩).alloc (Bj _) _
  have aL:=hv.below q hv.lt;have aB:=Row.setCells r (i*k) _ _ D (by omega)
  have A:(QaO R0 (i*k) r).length=G*k:=by rw [YU _ _ _ (by omega),aK]
  have aI:w.grownBy (W1.setCells w.heap.size (i*k) r) (some g):=Qga (Qc1 q) (Bj _) (Jc _ _ _ _);have aC:=(b.below q b.lt).grown (Jc w.heap.size r (i*k) W1) (by have:=b.lt;simp;omega)
  have T:(ps.flatten.drop (i*k)).length=ps.length*k-i*k:=by rw [Dd,S]
  refine ⟨G,W1,_,_,E,I,fun dc=>QoM hF D aL (m:=1) (by rw [L,C1]) (fun j u hj=>by rwa [Bq]) (by omega) aA (by simp only [Nat.min_def];split <;> omega),fun dc sc=>QoM hF aB.drew aC.drew (T.trans e2.symm) (fun j u hj=>?_) (by rw [A,e2];omega) (fun u hu=>QbP e u (Dt hu)) (Nat.min_self _),
    Qga (Z1 aI) (Bj _) (Jc _ _ _ _),Qf.of_row (Ql3 e ⟨L,aA⟩) (by have:=b.lt;omega) (Row.setCells _ _ _ _ aB.drew (by rw [A];omega)) (by rw [Qge _ _ _ (by omega)]) E aG (by rw [YU _ _ _ (by rw [A];omega),A]) ?_⟩
  · rw [Co] at hj
    exact ZG aD _ u hj
  · rw [QbU _ _ _ (by rw [A];omega) _ (by omega),QbU _ _ _ (by omega) _ (by omega),T,L,aE,show (i+1)*k-(i*k+k)=0 by omega,show (ps.length+1)*k-((i+1)*k+(ps.length*k-i*k))=0 by omega,CJ,CJ,CZ,CZ,Qjx (fun r hr=>(e r hr).1)]
theorem QsW: QcP 31 76 4:=QdB (z:=.agg #[Bb 0,Bb 0,Bc,Bc]) (B:=64) underlying76 (by kernel_rfl) rfl (by decide) (by decide)
def OvC (fo:FuncId) (t:TypeId) (k:Nat):Prop:=∀ (w:World) (vb g x lb cb c:Nat) (r cs:List Value),vb≠g→Row w vb t r→r.length=k→Row w g t cs→cs.length=c*k→0<c →
  (callFunc fo #[.slice (some ⟨vb,0,none⟩) 1 1,.slice (some ⟨g,x,none⟩) lb cb]).run prog w=.ok (.value (.bool false)) w
theorem QsB: OvC 219 31 4∧OvC 197 90 3∧True:=by
  refine ⟨?_,?_,trivial⟩
  all_goals
    intro w vb g x lb cb c r cs b hv hr hg hc h0
    first
      | (rw [Ed func219 (by kernel_rfl) (by kernel_rfl) (by kernel_rfl) (e:=Extern.SlicesOverlaps.overlaps #[76,76] #[4]) (by kernel_rfl)]
         rw [Lib.run_overlaps_apart w 76 4 31 underlying76 4 (fun w=>by kernel_rfl) ⟨vb,0,none⟩ ⟨g,x,none⟩ 1 1 lb cb b 31 31 4 (c*4) (by simp [World.shape?,show w.heap[vb]?=_ from hv,hr]) (by simp [World.shape?,show w.heap[g]?=_ from hg,hc]) (by omega) (hv.frozen 0) (hv.frozen 4)])
      | (rw [Ed func197 (by kernel_rfl) (by kernel_rfl) (by kernel_rfl) (e:=Extern.SlicesOverlaps.overlaps #[25,25] #[4]) (by kernel_rfl)]
         rw [Lib.run_overlaps_apart w 25 4 90 underlying25 3 (fun w=>by kernel_rfl) ⟨vb,0,none⟩ ⟨g,x,none⟩ 1 1 lb cb b 90 90 3 (c*3) (by simp [World.shape?,show w.heap[vb]?=_ from hv,hr]) (by simp [World.shape?,show w.heap[g]?=_ from hg,hc]) (by omega) (hv.frozen 0) (hv.frozen 3)])
    rfl
def QvE (f fo:FuncId) (st t:TypeId) (k:Nat):Prop:=QcP t st k→OvC fo t k→∀ (ps:List (List Value)) (i:Nat) (r:List Value) (base vb:Nat) (v:Value) (w:World),Qf t k w base v ps→base≤w.heap.size→Row w vb t r→okR k [r]→(∀ g,v.ownBlock=some g→vb≠g)→i≤ps.length→ps.length≤1000 →
  Calls prog f #[v,Bb (i:Int),.slice (some ⟨vb,0,none⟩) 1 1] w fun e w'=>w.grownBy w' v.ownBlock∧∃ v',e=.returned v'∧Qf t k w' base v' (Qc3 ps i r)∧∀ b,v'.ownBlock=some b→v.ownBlock=some b∨w.heap.size≤b
theorem QoU: QvE 187 219 76 31 4∧QvE 154 197 25 90 3∧True:=by
  refine ⟨?_,?_,trivial⟩
  all_goals
    intro hF hO ps i r base vb v w h hb hv h1 E hi hl
    by_cases he:i=ps.length
    · subst he
      obtain ⟨oa,c,rfl,hc⟩:=h.shape;have HO:=hid h;have HV:=hid hv;have H1:=hid h1;have HE:=hid (show Qc3 ps ps.length r=ps ++ [r] by simp [Qc3])
      clear h hv h1 hO;generalize hn:ps.length=n at *;have HN:=hid hn;clear hn
      cases oa
      all_goals
        go_in
        go_wp2_with (at_builtin;refine ZO hF rfl _ _ rfl base _ ps rfl HO.out _ _ r rfl (QgJ HV.out) H1.out (by rw [HN.out];omega) hb ?_;intro gg da w' g1 g2 g3 g4;have G1:=hid g1;have G3:=hid g3;have G4:=hid g4;clear g1 g2 g3 g4)
        all_goals
          go_ret;exact ⟨G3.out,_,rfl,by rw [HE.out];exact G1.out,fun b e=>by obtain rfl:gg=b:=(by simpa [Value.ownBlock] using e);exact G4.out.imp id fun h=>by omega⟩
    · obtain ⟨g,c,cs,rfl,q,j,S,D,C,I⟩:=h.row (by omega)
      by_cases L:ps.length+1≤c
      · obtain ⟨W1,W2,z,A,hg,hR⟩:=Qp2 (i:=i) hF q j C D I h.1 hv h1 (E g rfl) (by omega) L
        have T:=fun x lb cb=>hO w vb g x lb cb c r cs (E g rfl) hv (h1 r (BQ.2 rfl)).1 j C (by omega)
        have m:=hid (And.intro hg hR);have hc63:c≤9223372036854775807:=by unfold maxLen at D;omega
        clear hg hR C I j hv h1 h hO hF D E;generalize ps.length=n at *;have Y:IntKind.i64.wrap ((i:Int)+1)=(i:Int)+1:=by rw [Cd];omega
        have b1:(0:Int)≤(i:Int)+1:=by omega
        have b3:¬ (c=i+1):=by omega
        have b4:(i:Int)≤(n:Int)+1:=by omega
        have b5:¬ (c=i):=by omega
        have M:(i:Int)≤(n:Int):=by omega
        go_in
        go_wp2_with (simp only [T])
        go_region_law (refine Qd1 rfl (.tmp 73) (.tmp 76) _ _ rfl _ _ (by simp [Act.eval,Act.put];rfl) (by simp [Act.eval,Act.put];rfl) (z _ _ _) ?_)
        go_wp2_with (at_builtin;refine QcH _ rfl (.tmp 80) (.tmp 81) _ _ rfl _ _ rfl rfl (A _ _) ?_)
        go_ret;exact ⟨m.out.1,_,rfl,m.out.2,fun b e=>.inl (by simpa [Value.ownBlock] using e)⟩
      · obtain ⟨G,W1,W2,W3,hGn,O,z,A,hg,hR⟩:=Qr2 (i:=i) hF q j I h.1 hv h1 (by omega) S (by omega) hl
        have m:=hid (And.intro hg hR);clear hg hR C I j hv h1 h hO hF D E;generalize ps.length=n at *;have Y:IntKind.i64.wrap ((i:Int)+1)=(i:Int)+1:=by rw [Cd];omega
        have b1:(0:Int)≤(i:Int)+1:=by omega
        have b3:¬ (G=i+1):=by omega
        have b5:¬ (c=i):=by omega
        have M:(i:Int)≤(n:Int):=by omega
        go_in
        go_wp2_with (first | (at_builtin;refine En _ rfl (.tmp 34) (.tmp 39) _ _ rfl _ _ rfl rfl _ _ (O _) ?_) | (at_builtin;refine QcH _ rfl (.tmp 43) (.tmp 44) _ _ rfl _ _ rfl rfl (z _ _) ?_))
        go_region_law (refine Qd1 rfl (.tmp 50) (.tmp 53) _ _ rfl _ _ (by simp [Act.eval,Act.put];rfl) (by simp [Act.eval,Act.put];rfl) (A _ _ _) ?_)
        go_wp2;go_ret;exact ⟨m.out.1,_,rfl,m.out.2,fun b e=>.inr (by obtain rfl:w.heap.size=b:=(by simpa [Value.ownBlock] using e);exact Bj _)⟩
theorem Qm8 (z:Array Value):(Builtin.zeroCells z (0+1)).toList=z.toList:=by
  apply CP;intro j
  by_cases h:j<z.size
  · simp [Builtin.zeroCells,h,Nat.mod_eq_of_lt h]
  · simp [Builtin.zeroCells,h]
theorem Qt7 (hF:QcP t st k) (aC:∀ z,(∃ i,prog.info? t=some i∧i.zero=some z)→∀ u∈z.cells.toList,u.oneCell'=true) {ps:List (List Value)} {base:Nat} (h:Qf t k w base v ps) (hi:i<ps.length) :
    ∃ g c i0 A e W1 W2,v=.slice (some ⟨g,0,none⟩) ps.length c∧ps.length≤c∧c≤maxLen∧prog.info? t=some i0∧i0.size=k∧(if c=i+1 then some (⟨g,0,none⟩:Addr) else some ⟨g,(i+1)*k,none⟩)=some A∧Hid (e.length=(ps.length-(i+1))*k∧(∀ j u,e[j]?=some u→w.drew.cell? (A.add j)=some u)∧(∀ u∈e,u.oneCell'=true)∧(∀ j,j<e.length→(w.drew.cell? ⟨g,0+i*k+j,none⟩).isSome=true∧w.drew.frozen? ⟨g,0+i*k+j,none⟩=false)∧w.drew.setCells g (0+i*k) e=W1) ∧
      (∀ m ty,m=ps.length-1→(Builtin.clear_ #[st] ty #[.slice (some ⟨g,m*k,none⟩) (ps.length-m) (c-m)]).run prog W1=.ok (.tuple #[]) W2)∧Hid (w.grownBy W2 (some g)∧Qf t k W2 base (.slice (some ⟨g,0,none⟩) (ps.length-1) c) (ps.take i ++ ps.drop (i+1))):=by
  obtain ⟨hu,i0,z,B,G,aB,aF,hzb,O,hk0,hB⟩:=id hF;have b:okR k ps:=h.1;obtain ⟨g,c,cs,rfl,E,C,Y,S,aD,aA⟩:=h.row (by omega)
  have aE:=aC z ⟨i0,G,aB⟩;have e1:(i+1)*k=i*k+k:=BJ i k;have e2:(ps.length-(i+1))*k=ps.length*k-(i+1)*k:=Nat.sub_mul ..;have e3:(i+1)*k≤ps.length*k:=Ct k hi;have e4:ps.length*k≤c*k:=Ct k Y;have e5:(ps.length-1)*k=ps.length*k-k:=by rw [Nat.sub_mul,C1]
  have I:(ps.drop (i+1)).flatten.length=(ps.length-(i+1))*k:=by rw [YE _ (fun r hr=>(b r (Dt hr)).1),Dd]
  have L:=Row.setCells (ps.drop (i+1)).flatten (i*k) _ _ C.drew (by omega)
  have D:(QaO cs (i*k) (ps.drop (i+1)).flatten).length=c*k:=by rw [YU _ _ _ (by omega),aD]
  have M:=run_storeCells_cells (P:=prog) g ((ps.length-1)*k) z.cells.toList 0 (w.drew.setCells g (i*k) (ps.drop (i+1)).flatten) (fun j hj=>by
    rw [L.cell,Bk (by rw [D];have:j<k:=O ▸ hj;omega)]
    rfl) (fun j hj=>L.frozen _) aE
  have T:∀ j u,(ps.drop (i+1)).flatten[j]?=some u→cs[(i+1)*k+j]?=some u:=fun j u hu=>by
    rw [Qcd ps (fun r hr=>(b r hr).1),Co] at hu
    exact ZG aA _ u hu
  refine ⟨g,c,i0,if c=i+1 then ⟨g,0,none⟩ else ⟨g,(i+1)*k,none⟩,(ps.drop (i+1)).flatten,_,(w.drew.setCells g (i*k) (ps.drop (i+1)).flatten).setCells g ((ps.length-1)*k) z.cells.toList,rfl,Y,S,G,aF,by split <;> rfl,hid ⟨I,fun j u hu=>?_,QbP fun q hq=>b q (Dt hq),fun j hj=>?_,rfl⟩,fun m ty hm=>?_,hid ⟨?_,?_⟩⟩
  · split
    · have:(ps.drop (i+1)).flatten.length=0:=by rw [I,show ps.length-(i+1)=0 by omega,CR]
      rw [CD.1 this] at hu;simp at hu
    · rw [Qrg,C.drew.cell]
      exact T j u hu
  · rw [C.drew.cell]
    refine ⟨?_,C.drew.frozen _⟩;rw [Bk (by omega)]
    rfl
  · subst hm
    simp only [BK] at M;rw [show ps.length-(ps.length-1)=0+1 by omega,Bq]
    have aG:(zeroValue t).run prog (w.drew.setCells g (i*k) (ps.drop (i+1)).flatten)=.ok z (w.drew.setCells g (i*k) (ps.drop (i+1)).flatten):=by
      simp [zeroValue,typeInfo,G,aB]
    rw [← Qm8 z.cells] at M;simp [Builtin.clear_,run_underlying hu,aG,M];simp only [Qm8]
  · exact Qo (Qo (⟨rfl,rfl,rfl,Bj _,fun _ _ _=>rfl⟩:w.grownBy w.drew _) (Jc g _ _ w.drew)) (Jc g _ _ _)
  · refine Qf.of_row (fun r hr=>(Bw.1 hr).elim (fun hr=>b r (DL hr)) fun hr=>b r (Dt hr)) E (Row.setCells _ _ _ _ L (by rw [D];simp [O];omega)) (by simp;omega) (by omega) S (by rw [YU _ _ _ (by rw [D];simp [O];omega),D]) ?_
    rw [Qfa _ _ _ (by rw [D];omega) _ (by omega),QbU cs (i*k) _ (by omega) _ (by omega),I,show (ps.length-1)*k-(i*k+(ps.length-(i+1))*k)=0 by omega,CJ,CZ,CX,Qce ps (fun r hr=>(b r hr).1),← aA,List.take_take,DI (by omega)]
def QvC (f:FuncId) (st t:TypeId) (k:Nat):Prop:=QcP t st k→(∀ z,(∃ i,prog.info? t=some i∧i.zero=some z)→∀ u∈z.cells.toList,u.oneCell'=true)→∀ (ps:List (List Value)) (i base:Nat) (v:Value) (w:World),Qf t k w base v ps→i<ps.length→∀ j:Nat,j=i+1 →
  Calls prog f #[v,Bb (i:Int),Bb (j:Int)] w fun e w'=>w.grownBy w' v.ownBlock∧∃ v',e=.returned v'∧Qf t k w' base v' (ps.take i ++ ps.drop (i+1))∧v'.ownBlock=v.ownBlock
theorem QoO: QvC 188 76 31 4∧QvC 169 25 90 3∧True:=by
  refine ⟨?_,?_,trivial⟩
  all_goals
    intro hF hz ps i base v w h hi j hj;obtain ⟨g,c,i0,A,z,W1,W2,rfl,hnc,q,D,G,hA,HN,b,e⟩:=Qt7 hF hz h hi;rw [← hj] at hA HN;have hc63:c≤9223372036854775807:=by unfold maxLen at q;omega
    have E:=hF.1;have HC:=hid b;clear h q hF hz b;generalize ps.length=n at *;have f1:i≤c:=by omega
    have f2:j≤c:=by omega
    have f3:(i:Int)≤(n:Int):=by omega
    have f4:((j:Nat):Int)≤(n:Int):=by omega
    have f5:(i:Int)≤((j:Nat):Int):=by omega
    have f7:¬ ((i:Int)=((j:Nat):Int)):=by omega
    obtain ⟨m,hm⟩:∃ m,i+(n-j)=m:=⟨_,rfl⟩;have f8:(m:Int)≤(n:Int):=by omega
    have f9:¬ c=m:=by omega
    have f11:(n:Int)≤(c:Int):=by omega
    have b:=fun ty=>HC.out m ty (by omega)
    have HM:=hid hm;have C:=hid (show n-1=m by omega)
    clear hj
    go_in
    go_wp2_with fail
    go_region_law (refine step_append_room rfl (.tmp 22) (.tmp 25) _ rfl _ i0 _ E D G g 0 i c (by simp [Act.eval,Act.put]) A (n-j) (c-j) z (by simp [Act.eval,Act.put]) HN.out.1 HN.out.2.1 HN.out.2.2.1 (by omega) HN.out.2.2.2.1 ?_;rw [HN.out.2.2.2.2])
    go_wp2;go_ret;rw [C.out] at e;exact ⟨e.out.1,_,rfl,e.out.2,rfl⟩
theorem Qpk {z0:Value} (h:(prog.info? t).map (·.zero)=some (some z0)) (h1:∀ u∈z0.cells.toList,u.oneCell'=true):∀ z,(∃ i,prog.info? t=some i∧i.zero=some z)→∀ u∈z.cells.toList,u.oneCell'=true:=by
  rintro z ⟨i,h2,h3⟩;rw [h2] at h;obtain rfl:z=z0:=by simpa [h3] using h
  exact h1
theorem Qf.made (w:World) (base:Nat) (hb:base≤w.heap.size):Qf t k (w.alloc (.cells #[] t)) base (.slice (some ⟨w.heap.size,0,none⟩) 0 0) [] :=
  ⟨fun _ h=>(by cases h),by
    have:=World.ownsRow_made (e:=t) (size:=k) w #[] 0 hb (by omega) (by simp)
    simpa using this⟩
theorem QjV {c:Nat} (h:Ja w N (.slice none n c) k rs):rs=[]∧n=0∧c=0:=by grind [Ja]
def QgN (f:FuncId) (st t:TypeId) (k:Nat):Prop:=QcP t st k→∀ (rs:List (List Value)) (v:Value) (N:Nat) (w:World),Ja w N v k rs→N≤w.heap.size→okR k rs→rs.length≤1000 →
  Calls prog f #[v] w fun e w'=>Bd w w'∧∃ v',e=.returned v'∧Qf t k w' w.heap.size v' rs
theorem QbK: QgN 66 22 78 4∧QgN 68 23 82 4∧QgN 69 24 86 7∧QgN 101 25 90 3∧QgN 70 26 70 3:=by
  refine ⟨?_,?_,?_,?_,?_⟩
  all_goals
    intro hF rs v N w h hN b hl;have q:=fun (w:World) (a:Option Addr) (n c n' c':Nat)=>Lib.run_eql_slice_nil w _ _ a n c n' c' hF.1
    obtain ⟨oa,ca,rfl,hca⟩:=h.shape
    cases oa with
    | none =>
      obtain ⟨rfl,-,rfl⟩:=QjV h
      go_in
      go_wp2;go_ret;exact ⟨Bi _ _,_,rfl,fun _ h=>(by cases h),C9 _ _ _ _⟩
    | some a =>
      have e:=b;have HS:=hid h;generalize hn:rs.length=n at *;have HN:=hid hn;clear h b hn
      go_in
      go_wp2_with (at_builtin;refine Qdo hF rfl _ _ rfl w.heap.size _ [] rfl (Qf.made w _ (Bj _)) _ rs rfl (HS.out.below (((Bi _ _).alloc (Bj _) _).mono hN)) e (by rw [HN.out];simp;omega) (by simp) ?_)
      intro v' w2 j A hg2;have z:=hid j;have m:=hid (((Bi w.heap.size w).alloc (Bj _) _).trans A);go_wp2;go_ret;exact ⟨m.out,v',rfl,by simpa using z.out⟩
theorem QsU: QcP 78 22 4:=QdB (z:=.agg #[.string ⟨#[]⟩,Bb 0,.bool false,Bc]) (B:=56) underlying22 (by kernel_rfl) rfl (by decide) (by decide)
theorem QsV: QcP 82 23 4:=QdB (z:=.agg #[Bb 0,Bb 0,Bb 0,Bb 0]) (B:=32) underlying23 (by kernel_rfl) rfl (by decide) (by decide)
theorem QsT: QcP 86 24 7:=QdB (z:=.agg #[Bb 0,.bool false,Bb 0,Bb 0,Bb 0,Bb 0,Bb 0]) (B:=56) underlying24 (by kernel_rfl) rfl (by decide) (by decide)
theorem QsX: QcP 70 26 3:=QdB (z:=.agg #[.string ⟨#[]⟩,.string ⟨#[]⟩,.int .u64 0]) (B:=40) underlying26 (by kernel_rfl) rfl (by decide) (by decide)
theorem Row.k3 (h:Row w g t [v,v4,v5]):w.cell? ⟨g,0,none⟩=some v∧w.cell? ⟨g,1,none⟩=some v4∧w.cell? ⟨g,2,none⟩=some v5 :=
  ⟨h.cell 0,h.cell 1,h.cell 2⟩
theorem Row.k4 (h:Row w g t [v,v4,v5,v6]):w.cell? ⟨g,0,none⟩=some v∧w.cell? ⟨g,1,none⟩=some v4∧w.cell? ⟨g,2,none⟩=some v5∧w.cell? ⟨g,3,none⟩=some v6 :=
  ⟨h.cell 0,h.cell 1,h.cell 2,h.cell 3⟩
theorem Row.k5 (h:Row w g t [v,v4,v5,v6,v2]):w.cell? ⟨g,0,none⟩=some v∧w.cell? ⟨g,1,none⟩=some v4∧w.cell? ⟨g,2,none⟩=some v5∧w.cell? ⟨g,3,none⟩=some v6∧w.cell? ⟨g,4,none⟩=some v2 :=
  ⟨h.cell 0,h.cell 1,h.cell 2,h.cell 3,h.cell 4⟩
theorem Row.k6 (h:Row w g t [v,v4,v5,v6,v2,v3]):w.cell? ⟨g,0,none⟩=some v∧w.cell? ⟨g,1,none⟩=some v4∧w.cell? ⟨g,2,none⟩=some v5∧w.cell? ⟨g,3,none⟩=some v6∧w.cell? ⟨g,4,none⟩=some v2∧w.cell? ⟨g,5,none⟩=some v3 :=
  ⟨h.cell 0,h.cell 1,h.cell 2,h.cell 3,h.cell 4,h.cell 5⟩
theorem Row.k7 (h:Row w g t [v,v4,v5,v6,v2,v3,v7]):w.cell? ⟨g,0,none⟩=some v∧w.cell? ⟨g,1,none⟩=some v4∧w.cell? ⟨g,2,none⟩=some v5∧w.cell? ⟨g,3,none⟩=some v6∧w.cell? ⟨g,4,none⟩=some v2∧w.cell? ⟨g,5,none⟩=some v3∧w.cell? ⟨g,6,none⟩=some v7 :=
  ⟨h.cell 0,h.cell 1,h.cell 2,h.cell 3,h.cell 4,h.cell 5,h.cell 6⟩
theorem Row.k10 (h:Row w g t [v,v4,v5,v6,v2,v3,v7,v1,sv,c0]):w.cell? ⟨g,0,none⟩=some v∧w.cell? ⟨g,1,none⟩=some v4∧w.cell? ⟨g,2,none⟩=some v5∧w.cell? ⟨g,3,none⟩=some v6∧w.cell? ⟨g,4,none⟩=some v2∧w.cell? ⟨g,5,none⟩=some v3∧w.cell? ⟨g,6,none⟩=some v7∧w.cell? ⟨g,7,none⟩=some v1∧w.cell? ⟨g,8,none⟩=some sv∧w.cell? ⟨g,9,none⟩=some c0 :=
  ⟨h.cell 0,h.cell 1,h.cell 2,h.cell 3,h.cell 4,h.cell 5,h.cell 6,h.cell 7,h.cell 8,h.cell 9⟩
abbrev Bx:=Nat×TypeId×List Value
variable {a0 a1 a2:Bx}
structure FrB (B:Nat) (w:World) (l:List Bx) (w':World):Prop where
  b:Below B w w'
  rows:∀ r∈l,Row w' r.1 r.2.1 r.2.2
  own:∀ r∈l,B≤r.1
  apart:l.Pairwise (fun a b=>a.1≠b.1)
  z:B≤w.heap.size
abbrev Fr (w:World) (l:List Bx) (w':World):Prop:=FrB w.heap.size w l w'
theorem FrB.sz {l:List Bx} (F:FrB B w l w'):B≤w'.heap.size:=Bh F.z F.b.size
theorem FrB.nil (w:World):Fr w [] w:=⟨Bi _ _,fun _ h=>absurd h BH,fun _ h=>absurd h BH,List.Pairwise.nil,Bj _⟩
theorem FrB.go {w2:World} {l:List Bx} (F:FrB B w l w1) (h:Bd w1 w2):FrB B w l w2 :=
  ⟨F.b.trans (h.mono F.sz),fun r hr=>(F.rows r hr).below h (F.rows r hr).lt,F.own,F.apart,F.z⟩
theorem FrB.addAt {l:List Bx} (F:FrB B w l w1) (hg:g=w1.heap.size):FrB B w (l ++ [(g,t,cs)]) (w1.alloc (.cells cs.toArray t)):=by
  subst hg;have e:∀ r∈l,r.1<w1.heap.size:=fun r hr=>(F.rows r hr).lt
  refine ⟨F.b.alloc F.sz _,fun r hr=>?_,fun r hr=>?_,?_,F.z⟩
  · rcases Bw.1 hr with h | h
    · exact (F.rows r h).alloc _
    · obtain rfl:r=_:=BQ.1 h
      exact Row.new _ _ _
  · rcases Bw.1 hr with h | h
    · exact F.own r h
    · obtain rfl:r=_:=BQ.1 h
      exact F.sz
  · refine D4.2 ⟨F.apart,Eo _ _,fun a ha b hb=>?_⟩
    obtain rfl:b=_:=BQ.1 hb;exact Nat.ne_of_lt (e a ha)
theorem FrB.box {c:Code} {l:List Bx} (F:FrB B w l w1) (h:∀ w2,FrB B w (l ++ [(w1.heap.size,t,cs)]) w2→w1.heap.size+1≤w2.heap.size→Bd w1 w2→c.wp P Q a w2):c.wp P Q a (w1.alloc (.cells cs.toArray t)) :=
  h _ (F.addAt rfl) (by simp) ((Bi _ _).alloc (by omega) _)
theorem QkZ {l:List Bx} (h:l.Pairwise (fun a b=>a.1≠b.1)) {j:Nat} {x:Bx} (hi:l[i]?=some x) (hj:l[j]?=some a0) (hne:i≠j):x.1≠a0.1:=by grind [List.pairwise_iff_getElem]
theorem FrB.turn {w2:World} {l:List Bx} {b:List Value} (F:FrB B w l w1) (hi:l[i]?=some (g,t,cs)) (hr:Row w2 g t b) (hb:Below B w w2) (hk:∀ k,k≠g→k<w1.heap.size→w2.heap[k]?=w1.heap[k]?):FrB B w (l.set i (g,t,b)) w2:=by
  have C:=(Bm.1 hi).1
  have q:∀ r∈l.set i (g,t,b),r=(g,t,b)∨∃ j,j≠i∧l[j]?=some r:=by
    intro r hr;obtain ⟨j,hj⟩:=De hr;rw [Ef] at hj
    split at hj
    · first | rw [if_pos C] at hj | skip
      exact .inl (Bu hj).symm
    · rename_i m
      exact .inr ⟨j,fun e=>m e.symm,hj⟩
  refine ⟨hb,fun r A=>?_,fun r A=>?_,?_,F.z⟩
  · rcases q r A with rfl | ⟨j,m,hj⟩
    · exact hr
    · have h:=F.rows r (Bn hj)
      exact (hk _ (QkZ F.apart hj hi m) h.lt).trans h
  · rcases q r A with rfl | ⟨j,m,hj⟩
    · exact F.own (g,t,cs) (Bn hi)
    · exact F.own r (Bn hj)
  · have he:(l.set i (g,t,b)).map (·.1)=l.map (·.1):=by
      rw [Dc];apply CP;intro k;rw [Ef]
      split
      · rename_i e
        subst e;rw [Bs,hi,Bp,if_pos C];rfl
      · rfl
    have h2:(l.map (·.1)).Pairwise (·≠·):=List.pairwise_map.2 F.apart
    rw [← he] at h2;exact List.pairwise_map.1 h2
structure JJ (g:Nat) (w1 w2:World):Prop where
  below:Below 0 w1 w2
  same:∀ k,k≠g→w2.heap[k]?=w1.heap[k]?
  size:w2.heap.size=w1.heap.size
theorem JJ.refl (g:Nat) (w:World):JJ g w w:=⟨Bi _ _,fun _ _=>rfl,rfl⟩
theorem JJ.cell {w2:World} (h:JJ g w1 w2) (j:Nat) (v:Value):JJ g w1 (w2.setCell ⟨g,j,none⟩ v) :=
  ⟨h.below.trans ((Bi 0 _).setCell (by omega) _),fun k hk=>(DM _ _ _ _ hk).trans (h.same k hk),by rw [← h.size];simp⟩
theorem JJ.down {w2:World} (h:JJ g w1 w2) (hb:Below B w w1) (hg:B≤g):Below B w w2 :=
  hb.trans ⟨h.below.os,h.below.tape,h.below.output,h.below.size,fun k hk=>h.same k (by omega)⟩
theorem FrB.only {w2:World} {l:List Bx} {e:List Value} (F:FrB B w l w1) (hi:l[i]?=some (g,t,cs)) (hr:Row w2 g t e) (O:JJ g w1 w2):FrB B w (l.set i (g,t,e)) w2 :=
  F.turn hi hr (O.down F.b (F.own _ (Bn hi))) fun k hk _=>O.same k hk
theorem FrB.set1 {l:List Bx} (F:FrB B w l w1) (i j:Nat) (v:Value) (hi:l[i]?=some (g,t,cs)):FrB B w (l.set i (g,t,cs.set j v)) (w1.setCell ⟨g,j,none⟩ v) :=
  F.only hi ((F.rows _ (Bn hi)).set j v) ((JJ.refl _ _).cell j v)
theorem FrB.named {c:Code} {w2:World} {l:List Bx} (F:FrB B w l w2) (O:JJ g w1 w2) (h:∀ w3,FrB B w l w3→JJ g w1 w3→c.wp P Q a w3):c.wp P Q a w2:=h _ F O
theorem FrB.cell {c:Code} {l:List Bx} {j:Nat} (F:FrB B w l w1) (i:Nat) (hi:l[i]?=some (g,t,cs)) (h:∀ w2,FrB B w (l.set i (g,t,cs.set j v)) w2→JJ g w1 w2→c.wp P Q a w2):c.wp P Q a (w1.setCell ⟨g,j,none⟩ v) :=
  h _ (F.set1 i j v hi) ((JJ.refl _ _).cell j v)
theorem FrB.lts {l:List Bx} (F:FrB B w l w1):∀ g∈l.map (·.1),g<w1.heap.size:=fun g hg=>by
  obtain ⟨r,hr,rfl⟩:=BC.1 hg;exact (F.rows r hr).lt
theorem FrB.past {C:Nat} {w2:World} {l:List Bx} (F:FrB B w l w1) (h:Below C w1 w2) (hB:B≤C) (hl:∀ g∈l.map (·.1),g<C):FrB B w l w2 :=
  ⟨F.b.trans (h.mono hB),fun r hr=>(F.rows r hr).below h (hl _ (BC.2 ⟨r,hr,rfl⟩)),F.own,F.apart,F.z⟩
theorem FrB.grow {w2:World} {l:List Bx} {r:Option Nat} (F:FrB B w l w1) (h:w1.grownBy w2 r) (hr:∀ k,r=some k→B≤k) (hl:∀ g∈l.map (·.1),some g≠r):FrB B w l w2 :=
  ⟨F.b.grown h F.sz hr,fun q hq=>(F.rows q hq).grown h (hl _ (BC.2 ⟨q,hq,rfl⟩)),F.own,F.apart,F.z⟩
theorem FrB.low {C:Nat} {l:List Bx} (F:FrB B w l w1) (h:C≤B):FrB C w l w1:=⟨F.b.mono h,F.rows,fun r hr=>Bh h (F.own r hr),F.apart,Bh h F.z⟩
theorem Row.only (h:Row w g t cs) (O:JJ N w w') (b:g≠N):Row w' g t cs:=(O.same g b).trans h
theorem Qaj {c:Code} {w2:World} (h:w1=w2) (hw:c.wp P Q a w2):c.wp P Q a w1:=h ▸ hw
theorem Qvb {b:Array Oper} {rest:List Oper} (h:∀ w2,Row w2 w1.heap.size t cs→Bd w1 w2→wpList P b Q rest a w2):wpList P b Q rest a (w1.alloc (.cells cs.toArray t)) :=
  h _ (Row.new _ _ _) ((Bi _ _).alloc (by omega) _)
theorem Qgn (w:World) (g:Nat) (cs:Array Value):(w.setRow g cs).heap.size=w.heap.size:=by simp
theorem Qde (hb:Below B w' w) (hg:B≤g) (cs:Array Value):Below B w' (w.setRow g cs):=hb.trans ⟨rfl,rfl,rfl,by simp,fun k hk=>BV w g k cs (by omega)⟩
def Qx (t:TypeId) (n:Nat):Prop:=(∃ d,prog.underlying t=some d∧(match d with | .struct _ | .array _ _=>true | _=>false)=true)∧(prog.info? t).map (·.size)=some n
theorem FrB.store {j:Array Oper} {rest:List Oper} {l:List Bx} {b:Array Value} {e:List Value} (F:FrB B w l w1) (i:Nat) (he:(o.guard,o.op,a.eval x,a.eval y,l[i]?,e.length)=(none,.store t x y,.pointer (some ⟨g,0,none⟩),.agg b,some (g,t,e),b.size))
    (hs:Qx t e.length) (h1:b.all (·.oneCell')=true) (h:∀ w2,FrB B w (l.set i (g,t,b.toList)) w2→JJ g w1 w2→wpList prog j Q rest (a.put o.dst undef) w2):wpList prog j Q (o :: rest) a w1:=by
  injection he with hgd he
  injection he with ho he
  injection he with hx he
  injection he with hy he
  injection he with hi hn
  have hm:=Bn hi;have hr:Row w1 g t e:=F.rows _ hm;have O:JJ g w1 (w1.setRow g b):=⟨Qde (Bi 0 w1) (by omega) _,fun k hk=>BV _ _ _ _ hk,Qgn _ _ _⟩
  refine Da hgd t x y ho g b hx hy t e.toArray hr (by rw [hs.2,hn]) (by simpa using hn) h1 (h _ (F.only hi ?_ O) O)
  have:=Ck w1 g e.toArray b t (0,0) hr;unfold Row;simpa using this
theorem Qvq {j:Array Oper} {rest:List Oper} {b:Array Value} {e:List Value} (he:(o.guard,o.op,a.eval x,a.eval y,e.length)=(none,.store t x y,.pointer (some ⟨w1.heap.size,0,none⟩),.agg b,b.size))
    (hs:Qx t e.length) (h1:b.all (·.oneCell')=true) (h:∀ w3,Row w3 w1.heap.size t b.toList→Bd w1 w3→wpList prog j Q rest (a.put o.dst undef) w3):wpList prog j Q (o :: rest) a (w1.alloc (.cells e.toArray t)):=by
  injection he with hgd he
  injection he with ho he
  injection he with hx he
  injection he with hy hn
  have hr:=Row.new w1 t e;refine Da hgd t x y ho w1.heap.size b hx hy t e.toArray hr (by rw [hs.2,hn]) (by simpa using hn) h1 (h _ ?_ (Qde ((Bi _ _).alloc (Bj _) _) (Bj _) _))
  have:=Ck _ w1.heap.size e.toArray b t (0,0) hr;unfold Row;simpa using this
theorem FrB.storeNew {q:Array Oper} {rest:List Oper} {l:List Bx} {e:Array Value} {m:List Value} (F:FrB B w l w1) (he:(o.guard,o.op,a.eval x,a.eval y,m.length)=(none,.store t x y,.pointer (some ⟨w1.heap.size,0,none⟩),.agg e,e.size))
    (hs:Qx t m.length) (h1:e.all (·.oneCell')=true) (h:∀ w3,FrB B w (l ++ [(w1.heap.size,t,e.toList)]) w3→Bd w1 w3→wpList prog q Q rest (a.put o.dst undef) w3):wpList prog q Q (o :: rest) a (w1.alloc (.cells m.toArray t)):=by
  refine Qvq he hs h1 fun w3 hr hb=>h w3 ?_ hb
  have F3:=F.go hb;have A:∀ r∈l,r.1<w1.heap.size:=fun r hr=>(F.rows r hr).lt
  refine ⟨F3.b,fun r j=>?_,fun r j=>?_,?_,F.z⟩
  · rcases Bw.1 j with h | h
    · exact F3.rows r h
    · obtain rfl:r=_:=BQ.1 h
      exact hr
  · rcases Bw.1 j with h | h
    · exact F.own r h
    · obtain rfl:r=_:=BQ.1 h
      exact F.sz
  · refine D4.2 ⟨F.apart,Eo _ _,fun a ha b hb=>?_⟩
    obtain rfl:b=_:=BQ.1 hb;exact Nat.ne_of_lt (A a ha)
theorem Qb4 {b:Array Value} (h:∀ w2,Row w2 w1.heap.size t cs→Bd w1 w2→Calls P f b w2 R):Calls P f b (w1.alloc (.cells cs.toArray t)) R :=
  h _ (Row.new _ _ _) ((Bi _ _).alloc (by omega) _)
theorem JJ.row (g:Nat) (w1:World) (cs:Array Value):JJ g w1 (w1.setRow g cs):=⟨Qde (Bi 0 w1) (by omega) _,fun _ hk=>BV _ _ _ _ hk,Qgn _ _ _⟩
theorem FrB.load {b:Array Oper} {rest:List Oper} {l:List Bx} (F:FrB B w l w1) (i:Nat) (he:(o.guard,o.op,a.eval x,l[i]?)=(none,.load t x,.pointer (some ⟨g,0,none⟩),some (g,t,cs))) (hs:Qx t cs.length)
    (h:wpList prog b Q rest (a.put o.dst (.agg cs.toArray)) w1):wpList prog b Q (o :: rest) a w1:=by
  obtain ⟨⟨d,hu,hd⟩,hz⟩:=hs
  injection he with hgd he
  injection he with ho he
  injection he with hx hi
  exact wpList_load_row hgd t x ho g hx t cs.toArray (0,0) d (F.rows _ (Bn hi)) hu (by cases d <;> first | rfl | cases hd) (by simpa using hz) h
theorem Yr (hr:Row w g t cs) (hs:Qx t cs.length):(loadVar t ⟨g,0,none⟩).run prog w=.ok (.agg cs.toArray) w:=by
  obtain ⟨⟨d,hu,hd⟩,hi⟩:=hs;exact run_loadVar_row w g t t cs.toArray (0,0) d hr hu (by cases d <;> first | rfl | cases hd) (by simpa using hi)
theorem Qfe {s:Nat} (hf:fn.results=#[.cell s t]) (hs:a.tmps.getD s undef=.pointer (some ⟨g,0,none⟩)) (hr:Row w g t cs) (ht:Qx t cs.length) (hd:a.defers=[]) (hR:R (.returned (.agg cs.toArray)) w):bodyPost prog fn R .ret a w:=by
  have hs':a.tmps[s]?.getD undef=.pointer (some ⟨g,0,none⟩):=by simp_all
  exact BG (by simp [results,hf,hs',asAddr,Yr hr ht]) hd hR
theorem Qk {s u:Nat} (hf:fn.results=#[.cell s t,.tmp u]) (hs:a.tmps.getD s undef=.pointer (some ⟨g,0,none⟩)) (hr:Row w g t cs) (ht:Qx t cs.length) (hd:a.defers=[]) (hR:R (.returned (.tuple #[.agg cs.toArray,a.tmps.getD u undef])) w):bodyPost prog fn R .ret a w:=by
  have hs':a.tmps[s]?.getD undef=.pointer (some ⟨g,0,none⟩):=by simp_all
  exact BG (by simp [results,hf,hs',asAddr,Yr hr ht]) hd hR
theorem Ya {s u v:Nat} (hf:fn.results=#[.cell s t,.tmp u,.tmp v]) (hs:a.tmps.getD s undef=.pointer (some ⟨g,0,none⟩)) (hr:Row w g t cs) (ht:Qx t cs.length) (hd:a.defers=[]) (hR:R (.returned (.tuple #[.agg cs.toArray,a.tmps.getD u undef,a.tmps.getD v undef])) w):bodyPost prog fn R .ret a w:=by
  have hs':a.tmps[s]?.getD undef=.pointer (some ⟨g,0,none⟩):=by simp_all
  exact BG (by simp [results,hf,hs',asAddr,Yr hr ht]) hd hR
theorem FrB.r0  {l:List Bx} (F:FrB B w ((g,t,cs) :: l) w'):Row w' g t cs:=F.rows (g,t,cs) (.head _)
theorem FrB.r1 {l:List Bx} (F:FrB B w (a0 :: (g,t,cs) :: l) w'):Row w' g t cs:=F.rows (g,t,cs) (by simp)
theorem FrB.r2 {l:List Bx} (F:FrB B w (a0 :: a1 :: (g,t,cs) :: l) w'):Row w' g t cs:=F.rows (g,t,cs) (by simp)
theorem FrB.r3 {l:List Bx} (F:FrB B w (a0 :: a1 :: a2 :: (g,t,cs) :: l) w'):Row w' g t cs:=F.rows (g,t,cs) (by simp)
theorem FrB.r4 {a3:Bx} {l:List Bx} (F:FrB B w (a0 :: a1 :: a2 :: a3 :: (g,t,cs) :: l) w'):Row w' g t cs:=F.rows (g,t,cs) (by simp)
theorem FrB.r5 {a3:Bx} {a4:Bx} {l:List Bx} (F:FrB B w (a0 :: a1 :: a2 :: a3 :: a4 :: (g,t,cs) :: l) w'):Row w' g t cs:=F.rows (g,t,cs) (by simp)
theorem JQ {c:Code} (h:∀ w0,Fr w [(w.heap.size,t0,cs)] w0→w.heap.size+1≤w0.heap.size→c.wp P Q a w0):c.wp P Q a (w.alloc (.cells cs.toArray t0)) :=
  h _ ((FrB.nil w).addAt rfl) (by simp)
theorem QdQ {c:Code} (h:∀ w0,Fr w [(w.heap.size,t0,cs),(w.heap.size+1,t,xs)] w0→w.heap.size+2≤w0.heap.size→c.wp P Q a w0):c.wp P Q a ((w.alloc (.cells cs.toArray t0)).alloc (.cells xs.toArray t)) :=
  h _ (((FrB.nil w).addAt rfl).addAt (by simp)) (by simp)
theorem JR {c:Code} (h:∀ w0,Fr w [(w.heap.size,t0,cs),(w.heap.size+1,t,xs),(w.heap.size+1+1,ty,r)] w0→w.heap.size+3≤w0.heap.size→c.wp P Q a w0):c.wp P Q a (((w.alloc (.cells cs.toArray t0)).alloc (.cells xs.toArray t)).alloc (.cells r.toArray ty)) :=
  h _ ((((FrB.nil w).addAt rfl).addAt (by simp)).addAt (by simp)) (by simp)
theorem Qan {c:Code} {c3:List Value} (h:∀ w0,Fr w [(w.heap.size,t0,cs),(w.heap.size+1,t,xs),(w.heap.size+1+1,ty,r),(w.heap.size+1+1+1,st,c3)] w0→w.heap.size+4≤w0.heap.size→c.wp P Q a w0):c.wp P Q a ((((w.alloc (.cells cs.toArray t0)).alloc (.cells xs.toArray t)).alloc (.cells r.toArray ty)).alloc (.cells c3.toArray st)) :=
  h _ (((((FrB.nil w).addAt rfl).addAt (by simp)).addAt (by simp)).addAt (by simp)) (by simp)
theorem QbR {e:Array Oper} {rest:List Oper} {op:Oper} {b o:Nat} (hc:w.rangeAt b o cs) (hs:Qx t cs.length) (hw:Region.wanted op (yielded e a.tmps)=true) (ho:op.op=.load t x) (hx:a.eval x=.pointer (some ⟨b,o,none⟩))
    (h:wpList prog e Q rest (a.put op.dst (.agg cs.toArray)) w):wpList prog e Q (op :: rest) a w:=by
  obtain ⟨⟨d,hu,hd⟩,hz⟩:=hs;exact Go.BigFrame.wpList_want hw fun K hK=>wp_load_mid t x ho b o hx cs d hc hu (by cases d <;> first | rfl | cases hd) hz (hK _ _ h)
theorem Row.range (h:Row w g t cs):w.rangeAt g 0 cs:=fun j v hj=>by rw [Bq,h.cell];exact hj
theorem FrB.now {l:List Bx} (F:FrB B w l w'):FrB B w' l w':=⟨Bi _ _,F.rows,F.own,F.apart,F.sz⟩
theorem FrB.take {l:List Bx} (F:FrB B w l w') (n:Nat):FrB B w (l.take n) w':=⟨F.b,fun r hr=>F.rows r (DL hr),fun r hr=>F.own r (DL hr),F.apart.sublist (List.take_sublist n l),F.z⟩
theorem ZF {b:Nat} (ho:o.op=.load ty x) (hx:ev x=.pointer (some ⟨b,i,none⟩)) (hc:W.rangeAt b i cs) (hs:Qx ty cs.length):(execOp ev o).run prog W=.ok (.value (.agg cs.toArray)) W:=by
  obtain ⟨⟨d,hu,hd⟩,hz⟩:=hs;have:=run_loadAt_mid (P:=prog) W b i ty cs d hc hu (by cases d <;> first | rfl | cases hd) hz
  unfold execOp;simp only [ho,hx,CF,this,CO,CN]
theorem Qa: Qx 28 10:=⟨⟨_,underlying28,rfl⟩,by kernel_rfl⟩
theorem QN: Qx 46 18:=⟨⟨_,underlying46,rfl⟩,by kernel_rfl⟩
theorem YY: Qx 86 7:=⟨⟨_,underlying86,rfl⟩,by kernel_rfl⟩
theorem Z6: Qx 82 4:=⟨⟨_,underlying82,rfl⟩,by kernel_rfl⟩
theorem Qth: Qx 33 6:=⟨⟨_,underlying33,rfl⟩,by kernel_rfl⟩
theorem Qtj: Qx 37 8:=⟨⟨_,underlying37,rfl⟩,by kernel_rfl⟩
theorem Qm: Qx 78 4:=⟨⟨_,underlying78,rfl⟩,by kernel_rfl⟩
theorem Y9: Qx 31 4:=⟨⟨_,underlying31,rfl⟩,by kernel_rfl⟩
theorem ZA: Qx 39 10:=⟨⟨_,underlying39,rfl⟩,by kernel_rfl⟩
theorem Qii: Qx 90 3:=⟨⟨_,underlying90,rfl⟩,by kernel_rfl⟩
theorem Qij: Qx 70 3:=⟨⟨_,underlying70,rfl⟩,by kernel_rfl⟩
theorem QqV: Qx 304 2:=⟨⟨_,underlying304,rfl⟩,by kernel_rfl⟩
theorem Ja.at (h:Ja w N (.slice oa n g) k rs) (hk:∀ r∈rs,r.length=k) (hB:N≤B) (hn:rs.length=n) (hi:i<n) :
    ∃ b o r,oa=some ⟨b,o,none⟩∧rs[i]?=some r∧r.length=k∧∀ W,Below B w W→W.rangeAt b (o+i*k) r:=by
  obtain ⟨b,o,e,hc⟩:=h.spot (by omega)
  have hr:=Bk (show i<rs.length by omega)
  exact ⟨b,o,_,e,hr,hk _ (Bn hr),fun W hb j v hv=>(hb.cell (show b<B from Bt (hc i _ hr).1 hB)).trans ((hc i _ hr).2 j v hv)⟩
def QgD (f:FuncId) (t:TypeId) (k:Nat):Prop:=Qx t k→∀ (Z:Nat→Int) (rs:List (List Value)) (sv tv:Value) (fid:FuncId) (N:Nat) (w:World),(∀ (args:Array Value) (W:World),(callFunc fid args).run prog W=.ok (.enter fid args) W)→N≤w.heap.size→Ja w N sv k rs→(∀ r∈rs,r.length=k)→rs.length≤1000000 →
  (∀ a b,a≤b→b<rs.length→Z b<0→Z a<0)→(∀ h r W,rs[h]?=some r→Bd w W→Calls prog fid #[.agg r.toArray,tv] W fun e W'=>e=.returned (Bb (Z h))∧Bd W W') →
  Calls prog f #[sv,tv,.func (.func fid) #[] #[]] w fun e w'=>Bd w w'∧∃ i fd,e=.returned (.tuple #[Bb ((i:Nat):Int),.bool fd])∧i≤rs.length∧(∀ j,j<i→Z j<0)∧(∀ j,i≤j→j<rs.length→0≤Z j)∧(fd=true↔i<rs.length∧Z i=0)
theorem Qh7: QgD 183 31 4∧QgD 265 304 2∧True:=by
  refine ⟨?_,?_,trivial⟩
  all_goals
    intro hS Z rs sv tv fid N w D hN hl hk hlen z C;obtain ⟨oa,ca,rfl,hca⟩:=hl.shape;have HL:=hid hl;have q:=hid D;have HM:=hid z;have HC:=hid C;have HK:=hid hk;clear hl D z C hk;generalize hn:rs.length=n at *;have HN:=hid hn;clear hn;have HR:=hid (fun i (hi:i<n)=>HL.out.at HK.out hN HN.out hi)
    go_in
    go_wp2_with fail
    go_loopw [9,10] (fun s9 L wr=>∃ lo hi:Nat,s9=Bb lo∧L=Bb hi∧lo≤hi∧hi≤n∧Hid (Bd w wr∧(∀ t,t<lo→Z t<0)∧∀ t,hi≤t→t<n→0≤Z t)) (fun s9 L _=>(intOf L).toNat-(intOf s9).toNat)
    case atStart=>exact ⟨0,n,rfl,rfl,BF _,Bj _,hid ⟨Bi _ _,fun t ht=>absurd ht (Nat.not_lt_zero _),fun t h1 h2=>by omega⟩⟩
    case round =>
      obtain ⟨lo,hi,rfl,rfl,hlh,E,HB⟩:=hrel
      by_cases hlt:lo<hi
      · have O:(lo+hi) / 2<n:=by omega
        have hh1:((lo:Int)+(hi:Int)) / 2=(((lo+hi) / 2:Nat):Int):=by omega
        have hlh2:lo≤(lo+hi) / 2∧(lo+hi) / 2<hi:=by omega
        generalize (lo+hi) / 2=h at *;obtain ⟨b,o,r,rfl,hr,G,hm⟩:=HR.out h O;have HX:=hid (hm _ HB.out.1);have A:=hid (HC.out h r wr hr HB.out.1);have HS:=hid (show Qx _ r.length by rw [G];exact hS)
        have hlt':(lo:Int)<(hi:Int):=by omega
        have HZ:=hid (fun t=>HM.out t h)
        have T:=hid (fun t (h1:h≤t) h2 h3=>HM.out h t h1 h2 h3)
        generalize Z h=cc at *;clear hm hr
        by_cases I:cc<0
        · have hyx':decide (cc<0)=true:=by simpa using I
          go_wp2_with (refine QbR HX.out HS.out rfl rfl rfl ?_)
          rw [q.out,DN];refine A.out.mono ?_;rintro e w2 ⟨rfl,j⟩;have m:=hid (HB.out.1.trans (j.mono HB.out.1.size));clear j
          go_wp2_with fail
          exact ⟨⟨h+1,hi,by go_num,rfl,by omega,E,hid ⟨m.out,fun t ht=>HZ.out t (by omega) O I,HB.out.2.2⟩⟩,by simp [intOf];omega⟩
        · have hyx':decide (cc<0)=false:=by simpa using I
          go_wp2_with (refine QbR HX.out HS.out rfl rfl rfl ?_)
          rw [q.out,DN];refine A.out.mono ?_;rintro e w2 ⟨rfl,j⟩;have m:=hid (HB.out.1.trans (j.mono HB.out.1.size));clear j
          go_wp2_with fail
          exact ⟨⟨lo,h,rfl,by go_num,by omega,by omega,hid ⟨m.out,HB.out.2.1,fun t h1 h2=>DO.1 fun h3=>by have:=T.out t h1 h2 h3;omega⟩⟩,by simp [intOf];omega⟩
      · obtain rfl:hi=lo:=by omega
        have hge:decide ((hi:Int)<(hi:Int))=false:=by simp
        by_cases hn:hi<n
        · obtain ⟨b,o,r,rfl,hr,G,hm⟩:=HR.out hi hn
          have HX:=hid (hm _ HB.out.1);have A:=hid (HC.out hi r wr hr HB.out.1);have HS:=hid (show Qx _ r.length by rw [G];exact hS)
          have hlt':(hi:Int)<(n:Int):=by omega
          have M:decide ((hi:Int)<(n:Int))=true:=by simpa using hlt'
          generalize S:Z hi=cc at *;have Y:=hid S;clear hm hr S
          go_wp2_with (refine QbR HX.out HS.out rfl rfl rfl ?_)
          rw [q.out,DN];refine A.out.mono ?_;rintro e w2 ⟨rfl,j⟩;have m:=hid (HB.out.1.trans (j.mono HB.out.1.size));clear j;go_wp2;go_ret2;exact ⟨m.out,hi,_,rfl,E,HB.out.2.1,HB.out.2.2,by rw [Y.out];simp [hn]⟩
        · have M:decide ((hi:Int)<(n:Int))=false:=by simp;omega
          go_wp2;go_ret2;exact ⟨HB.out.1,hi,_,rfl,E,HB.out.2.1,HB.out.2.2,by simp [hn]⟩
def AtL {α:Type} (c:α→Int) (l:List α) (i:Nat) (fd:Bool):Prop:=i≤l.length∧(∀ t p,t<i→l[t]?=some p→c p<0)∧(∀ t p,i≤t→l[t]?=some p→0≤c p)∧(fd=true↔∃ p,l[i]?=some p∧c p=0)
def QkU {α:Type} (c:α→Int) (l:List α) (i:Nat):Int:=(l[i]?.map c).getD 0
theorem Qbt {α:Type} {c:α→Int} {l:List α} {i:Nat} {p:α} (h:l[i]?=some p):QkU c l i=c p:=by simp [QkU,h]
theorem QjN {α:Type} {c:α→Int} {l:List α} (hs:l.Pairwise fun a b=>c b<0→c a<0) (a b:Nat) (e:a≤b) (hb:b<l.length) (h:QkU c l b<0):QkU c l a<0:=by
  rcases Nat.lt_or_eq_of_le e with hlt | rfl
  · rw [Qbt (Bk hb)] at h
    rw [Qbt (Bk (DP hlt hb))];exact Ee.1 hs a b _ hb hlt h
  · exact h
theorem Qri {α:Type} {c:α→Int} {l:List α} {i:Nat} {fd:Bool} (h1:i≤l.length) (h2:∀ j,j<i→QkU c l j<0) (h3:∀ j,i≤j→j<l.length→0≤QkU c l j) (h4:fd=true↔i<l.length∧QkU c l i=0):AtL c l i fd:=by
  refine ⟨h1,fun t p ht hp=>?_,fun t p ht hp=>?_,h4.trans ⟨?_,?_⟩⟩
  · rw [← Qbt (c:=c) hp];exact h2 t ht
  · rw [← Qbt (c:=c) hp];exact h3 t ht (Bm.1 hp).1
  · rintro ⟨h,e⟩;rw [Qbt (Bk h)] at e;exact ⟨_,Bk h,e⟩
  · rintro ⟨p,hp,e⟩;exact ⟨(Bm.1 hp).1,by rw [Qbt hp];exact e⟩
theorem QgD.list (h:QgD f t k) (hS:Qx t k) {α:Type} (c:α→Int) (l:List α) (rs:List (List Value)) {sv tv:Value} {j:FuncId} {N:Nat} {w:World} (q:∀ (m:Array Value) (W:World),(callFunc j m).run prog W=.ok (.enter j m) W) (hN:N≤w.heap.size) (hl:Ja w N sv k rs) (hk:∀ r∈rs,r.length=k) (he:rs.length=l.length) (hlen:l.length≤1000000) (hs:l.Pairwise fun a b=>c b<0→c a<0)
    (hc:∀ (i:Nat) r p W,rs[i]?=some r→l[i]?=some p→Bd w W→Calls prog j #[.agg r.toArray,tv] W fun e W'=>e=.returned (Bb (c p))∧Bd W W') :
    Calls prog f #[sv,tv,.func (.func j) #[] #[]] w fun e w'=>Bd w w'∧∃ i fd,AtL c l i fd∧e=.returned (.tuple #[Bb (i:Nat),.bool fd]):=by
  refine (h hS (QkU c l) rs sv tv j N w q hN hl hk (by omega) (by rw [he];exact QjN hs) fun i r W hr hb=>?_).mono ?_
  · have hp:=Bk (l:=l) (i:=i) (by rw [← he];exact (Bm.1 hr).1)
    rw [Qbt hp];exact hc i r _ W hr hp hb
  · rintro e w' ⟨hb,i,fd,rfl,h1,h2,h3,h4⟩
    rw [he] at h1 h3 h4;exact ⟨hb,i,fd,Qri h1 h2 h3 h4,rfl⟩
structure Vl where
  key:Nat
  power:Nat
structure Vt where
  is:Bool
  r:Nat
  s:Nat
structure Hd where
  chain:ByteArray
  height:Int
  time:Int
  root:Bg
  vals:Bg
  next:Bg
structure Sg where
  hd:Hd
  vals:List Vl
  votes:List Vt
def Vl.ok (v:Vl):Prop:=v.key<18446744073709551616∧v.power<18446744073709551616
def Vt.ok (v:Vt):Prop:=v.r<18446744073709551616∧v.s<18446744073709551616
def Vt.none:Vt:=⟨false,0,0⟩
variable {ts:List Vt}
def Hd.none:Hd:=⟨⟨#[]⟩,0,0,[],[],[]⟩
def Sg.none:Sg:=⟨Hd.none,[],[]⟩
def Hd.fits (h:Hd):Prop:=h.chain.size≤140737488351232∧h.root.length≤140737488351232∧h.vals.length≤140737488351232∧h.next.length≤140737488351232
def Sg.fits (s:Sg):Prop:=s.hd.fits∧s.vals.length<2305843009213693952∧s.votes.length<2305843009213693952∧(∀ v∈s.vals,v.ok)∧∀ v∈s.votes,v.ok
def Qfy:Option Nat→Nat→Bool
  | none,_=>false
  | some k,x=>decide (x≤k)
def Qaa (p:Option Nat):List Vl→Int
  | []=>0
  | v :: r=>if v.power<1∨1000000<v.power then 3 else if Qfy p v.key=true then 2 else Qaa (some v.key) r
def JD (l:List Vl):Int:=if l.length<1∨10<l.length then 5 else Qaa none l
def QbT (l:List Vl) (k:Nat):Option Nat:=if k=0 then none else (l[k-1]?).map (·.key)
theorem QqZ (l:List Vl) (k:Nat) (v:Vl) (h:l[k]?=some v):Qaa (QbT l k) (l.drop k) =
    if v.power<1∨1000000<v.power then 3 else if Qfy (QbT l k) v.key=true then 2 else Qaa (QbT l (k+1)) (l.drop (k+1)):=by
  obtain ⟨hk,rfl⟩:=Bm.1 h;rw [Cs hk,Qaa];have e:QbT l (k+1)=some l[k].key:=by unfold QbT;simp [hk]
  rw [e]
theorem Qou (l:List Vl) (k:Nat) (h:l.length≤k):Qaa (QbT l k) (l.drop k)=0:=by
  rw [CI h,Qaa]
theorem Qj6:∀ (l:List Vl) (p:Option Nat),Qaa p l=0→(∀ v∈l,1≤v.power∧v.power≤1000000)∧(∀ k,p=some k→∀ v∈l,k<v.key)∧l.Pairwise (fun a b=>a.key<b.key)
  | [],_,_=>⟨by simp,by simp,List.Pairwise.nil⟩
  | v :: r,p,h=>by
    rw [Qaa] at h
    split at h
    · cases h
    · rename_i h1
      split at h
      · cases h
      · rename_i h2
        obtain ⟨j,m,q⟩:=Qj6 r _ h;have e:=m v.key rfl;refine ⟨fun x hx=>?_,fun k hk x hx=>?_,List.Pairwise.cons (fun x hx=>e x hx) q⟩
        · rcases Bo.1 hx with rfl | hx
          · omega
          · exact j x hx
        · subst hk
          simp [Qfy] at h2
          rcases Bo.1 hx with rfl | hx
          · exact h2
          · exact DP h2 (e x hx)
theorem Zn {l:List Vl} (h:JD l=0):1≤l.length∧l.length≤10∧(∀ v∈l,1≤v.power∧v.power≤1000000)∧l.Pairwise (fun a b=>a.key<b.key):=by grind [JD,Qj6]
def Qe3 (c:UInt8):Bool:=(decide (97≤c.toNat) && decide (c.toNat≤122)) || (decide (48≤c.toNat) && decide (c.toNat≤57))
def Zc (s:ByteArray):Bool:=decide (1≤s.size) && decide (s.size≤20) && s.data.toList.all Qe3
theorem Qgg {s:ByteArray} (h:s.size<1∨20<s.size):Zc s=false:=by grind [Zc]
theorem Qsr {s:ByteArray} (k:Nat) (hk:k<s.size) (h:Qe3 s[k]=false):Zc s=false:=by
  unfold Zc
  have:s.data.toList.all Qe3=false:=by
    rw [List.all_eq_false];refine ⟨s[k],?_,by rw [h];decide⟩
    exact Array.mem_toList_iff.2 (Array.getElem_mem (xs:=s.data) hk)
  rw [this,Bool.and_false]
theorem Qqr {s:ByteArray} (h1:1≤s.size) (h2:s.size≤20) (h:∀ k (hk:k<s.size),Qe3 s[k]=true):Zc s=true:=by
  unfold Zc;rw [BB h1,BB h2];simp only [Bool.true_and];rw [CV];intro x hx;obtain ⟨k,hk,rfl⟩:=Dw hx;exact h k (by simpa using hk)
def Js (h:Hd):Int :=
  if Zc h.chain=false then 7 else if h.height<1∨1000000000000<h.height∨h.time<0∨1000000000000<h.time then 3
  else if h.root.length≠32∨h.vals.length≠32∨h.next.length≠32 then 2 else 0
theorem QaU {h:Hd} (e:Js h=0):(Zc h.chain=true∧1≤h.chain.size∧h.chain.size≤20)∧(1≤h.height∧h.height≤1000000000000∧0≤h.time∧h.time≤1000000000000)∧h.root.length=32∧h.vals.length=32∧h.next.length=32:=by grind [Js,Zc]
def Yo (s:ByteArray):Bg:=s.data.toList.map UInt8.toBitVec
theorem QV (s:ByteArray):(Yo s).length=s.size:=by simp [Yo]
theorem Qmc {s t:ByteArray} (h:Yo s=Yo t):s=t:=by
  have:s.data.toList=t.data.toList:=by
    refine List.map_inj_right (f:=UInt8.toBitVec) ?_ |>.1 h;intro x y e;exact UInt8.eq_of_toBitVec_eq e
  obtain ⟨a⟩:=s;simp at this;rw [this]
def Yz (l:List Vl):List Pc:=l.flatMap fun v=>[⟨1,v.key,[]⟩,⟨1,v.power,[]⟩]
theorem ZN (l:List Vl):(Yz l).length=2*l.length:=by induction l <;> grind [Yz]
def QfW (l:List Vl):Bg:=Zk (Yz l).length ++ wrs (Yz l)
def QcJ (l:List Vl):Bg:=sha (QfW l)
theorem Qix:∀ (l:List Vl),(∀ v∈l,v.ok)→(wrs (Yz l)).length≤22*l.length
  | [],_=>by simp [wrs,Yz]
  | v :: r,h=>by
    have ih:=Qix r (fun x hx=>h x (Cr _ hx))
    obtain ⟨h1,h2⟩:=h v Ci;have e1:=Q4 v.key h1;have e2:=Q4 v.power h2
    have:wrs (Yz (v :: r))=(0 :: Zk v.key) ++ ((0 :: Zk v.power) ++ wrs (Yz r)):=by
      simp [wrs,Yz,Pc.wr]
    rw [this];simp;omega
theorem QoC (l:List Vl) (hl:l.length≤10) (h:∀ v∈l,v.ok):YC (Yz l)=.ok (QfW l):=by grind [YC,Yz,QfW,ZN,Qix,Q4,Qfv]
theorem Qi0 (l:List Vl) (hl:l.length≤10) (h:∀ v∈l,v.ok):(QfW l).length≤300:=by grind [QfW,ZN,Qix,Q4]
def Zp (h:Hd):List Pc:=[⟨2,0,Yo h.chain⟩,⟨1,h.height.toNat,[]⟩,⟨1,h.time.toNat,[]⟩,⟨2,0,h.root⟩,⟨2,0,h.vals⟩,⟨2,0,h.next⟩]
def Jk (h:Hd):Bg:=Zk 6 ++ wrs (Zp h)
theorem Qm7 (h:Hd) (e:Js h=0):(Jk h).length≤300:=by
  obtain ⟨⟨_,h1,h2⟩,h3,h4,h5,h6⟩:=QaU e;have e1:=Q4 h.height.toNat (by omega)
  have e2:=Q4 h.time.toNat (by omega)
  have e3:=Q4 6 (by omega)
  have e4:=Q4 (Yo h.chain).length (by rw [QV];omega)
  have e5:=Q4 32 (by omega)
  have hl:=QV h.chain;unfold Jk;simp [wrs,Zp,Pc.wr,h4,h5,h6];omega
theorem Qex (h:Hd) (e:Js h=0):YC (Zp h)=.ok (Jk h):=by
  have h1:=Qm7 h e;refine Qfv _ _ _ (fun p hp=>?_) (by exact Bh h1 (by omega))
  simp [Zp] at hp
  rcases hp with rfl | rfl | rfl | rfl | rfl | rfl <;> simp
theorem Qcg (h:Hd) (e:Js h=0):∀ p∈Zp h,p.ok∧p.b.length≤140737488351232:=by grind [Zp,QaU,QV,Pc.ok]
theorem Qnh {a b:Hd} (ha:Js a=0) (hb:Js b=0) (e:Jk a=Jk b):a=b:=by
  have h:=(Qvy (Zp a) (Zp b) _ _ (fun p hp=>(Qcg a ha p hp).1) (fun p hp=>(Qcg b hb p hp).1) (Qex a ha) (Qex b hb)).1 e
  obtain ⟨_,h3,_⟩:=QaU ha;obtain ⟨_,k3,_⟩:=QaU hb;simp [Zp,Pc.norm] at h;obtain ⟨e1,e2,e3,e4,e5,e6⟩:=h;have j:=Qmc e1;obtain ⟨a1,a2,a3,a4,a5,a6⟩:=a;obtain ⟨b1,b2,b3,b4,b5,b6⟩:=b;simp at j e2 e3 e4 e5 e6 h3 k3;obtain rfl:a2=b2:=by omega
  obtain rfl:a3=b3:=by omega
  rw [j,e4,e5,e6]
def Jl (h:Hd) (l:List Vl):Int:=if Js h≠0 then Js h else if JD l≠0 then JD l else if h.vals=QcJ l then 0 else 8
theorem Yb {h:Hd} {l:List Vl} (e:Jl h l=0):Js h=0∧JD l=0∧h.vals=QcJ l:=by grind [Jl]
def QjA (key:Nat) (m:Bg) (r s:Nat):Bool :=
  decide (1≤key∧key<1152921504606849707) && (decide (1≤r∧r<1152921504606849707) && (decide (s<576460752303424853) && (decide (Qut key=1) && decide (QgA 4 s=Qml r (QgA key (Qpv r key m))))))
theorem QrW {key:Nat} {m:Bg} {r s:Nat} {b:Bool} (h:b=true↔QdU key m r s):b=QjA key m r s:=by grind [QdU,QjA]
def Y3 (m:Bg):List Vl→List Vt→Bool
  | v :: l,t :: r=>(!t.is || QjA v.key m t.r t.s) && Y3 m l r
  | _,_=>true
def QgC:List Vl→List Vt→Nat
  | v :: l,t :: r=>(if t.is then v.power else 0)+QgC l r
  | _,_=>0
def Qbe (l:List Vl):Nat:=(l.map (·.power)).sum
def Zu (s:Sg):Int :=
  if Jl s.hd s.vals≠0 then Jl s.hd s.vals else if s.votes.length≠s.vals.length then 8
  else if Y3 (Jk s.hd) s.vals s.votes=false then 10 else if 3*QgC s.vals s.votes≤2*Qbe s.vals then 10 else 0
theorem Qjk {s:Sg} (e:Zu s=0):Jl s.hd s.vals=0∧s.votes.length=s.vals.length∧Y3 (Jk s.hd) s.vals s.votes=true∧2*Qbe s.vals<3*QgC s.vals s.votes:=by grind [Zu]
def Qab (key:Nat):List Vl→List Vt→Bool
  | v :: l,t :: r=>(decide (v.key=key) && t.is) || Qab key l r
  | _,_=>false
def Qe7 (s:Sg):List Vl→Nat
  | []=>0
  | v :: l=>(if Qab v.key s.vals s.votes then v.power else 0)+Qe7 s l
def QjR (t:List Vl) (s:Sg):Bool:=decide (Qbe t<3*Qe7 s t)
theorem QgF:∀ (l:List Vl),(∀ v∈l,v.power≤1000000)→Qbe l≤1000000*l.length
  | [],_=>by simp [Qbe]
  | v :: r,h=>by
    have ih:=QgF r (fun x hx=>h x (Cr _ hx))
    have:=h v Ci;simp [Qbe] at ih ⊢;omega
theorem Qpj:∀ (l:List Vl) (m:List Vt),QgC l m≤Qbe l
  | [],_=>by simp [QgC]
  | v :: l,[]=>by simp [QgC]
  | v :: l,t :: m=>by
    have ih:=Qpj l m;simp [QgC,Qbe] at ih ⊢
    split <;> omega
theorem Qmp (s:Sg):∀ (l:List Vl),Qe7 s l≤Qbe l
  | []=>by simp [Qe7]
  | v :: l=>by
    have ih:=Qmp s l;simp [Qe7,Qbe] at ih ⊢
    split <;> omega
def QmZ (v:Vl):List Value:=[.int .u64 (v.key:Int),.int .u64 (v.power:Int)]
def Qpg (v:Vt):List Value:=[.bool v.is,.int .u64 (v.r:Int),.int .u64 (v.s:Int)]
def ZD (w:World) (N:Nat) (sv:Value) (l:List Vl):Prop:=Ja w N sv 2 (l.map QmZ)
def ZE (w:World) (N:Nat) (sv:Value) (l:List Vt):Prop:=Ja w N sv 3 (l.map Qpg)
theorem ZD.below {l:List Vl} (h:ZD w N sv l) (hg:Below N w w'):ZD w' N sv l:=Ja.below h hg
theorem ZE.below {l:List Vt} (h:ZE w N sv l) (hg:Below N w w'):ZE w' N sv l:=Ja.below h hg
theorem ZD.mono {l:List Vl} (h:ZD w N sv l) (hg:N≤g):ZD w g sv l:=Ja.mono h hg
theorem ZE.mono {l:List Vt} (h:ZE w N sv l) (hg:N≤g):ZE w g sv l:=Ja.mono h hg
theorem ZD.shape {l:List Vl} (h:ZD w N sv l):∃ oa b,sv=.slice oa l.length b∧l.length≤b:=by grind [ZD,Ja.shape]
theorem ZE.shape {l:List Vt} (h:ZE w N sv l):∃ oa b,sv=.slice oa l.length b∧l.length≤b:=by grind [ZE,Ja.shape]
theorem ZD.spot {j:Nat} {l:List Vl} (h:ZD w N (.slice oa n j) l) (hl:0<n) :
    ∃ b e,oa=some ⟨b,e,none⟩∧∀ i v,l[i]?=some v→b<N∧w.cell? ⟨b,e+i*2,none⟩=some (.int .u64 (v.key:Int))∧w.cell? ⟨b,e+i*2+1,none⟩=some (.int .u64 (v.power:Int)):=by
  obtain ⟨b,e,h1,h2⟩:=Ja.spot h hl;refine ⟨b,e,h1,fun i v hv=>?_⟩
  obtain ⟨h3,h4⟩:=h2 i (QmZ v) (by simp [hv])
  exact ⟨h3,h4 0 _ rfl,h4 1 _ rfl⟩
theorem ZE.spot {j:Nat} {l:List Vt} (h:ZE w N (.slice oa n j) l) (hl:0<n) :
    ∃ b e,oa=some ⟨b,e,none⟩∧∀ i v,l[i]?=some v→b<N∧w.cell? ⟨b,e+i*3,none⟩=some (.bool v.is)∧w.cell? ⟨b,e+i*3+1,none⟩=some (.int .u64 (v.r:Int))∧w.cell? ⟨b,e+i*3+2,none⟩=some (.int .u64 (v.s:Int)):=by
  obtain ⟨b,e,h1,h2⟩:=Ja.spot h hl;refine ⟨b,e,h1,fun i v hv=>?_⟩
  obtain ⟨h3,h4⟩:=h2 i (Qpg v) (by simp [hv])
  exact ⟨h3,h4 0 _ rfl,h4 1 _ rfl,h4 2 _ rfl⟩
def HdV (w:World) (N:Nat) (v:Value) (h:Hd):Prop:=∃ rv vv nv,v=.agg #[.string h.chain,Bb h.height,Bb h.time,rv,vv,nv]∧Bytes w N rv h.root∧Bytes w N vv h.vals∧Bytes w N nv h.next
theorem HdV.below {h:Hd} (k:HdV w N v h) (hg:Below N w w'):HdV w' N v h:=by
  obtain ⟨rv,vv,nv,rfl,h1,h2,h3⟩:=k;exact ⟨rv,vv,nv,rfl,h1.below hg,h2.below hg,h3.below hg⟩
theorem HdV.mono {h:Hd} (k:HdV w N v h) (hg:N≤g):HdV w g v h:=by
  obtain ⟨rv,vv,nv,rfl,h1,h2,h3⟩:=k;exact ⟨rv,vv,nv,rfl,h1.mono hg,h2.mono hg,h3.mono hg⟩
def SgV (w:World) (N:Nat) (v:Value) (s:Sg):Prop:=∃ rv vv nv lv tv,v=.agg #[.string s.hd.chain,Bb s.hd.height,Bb s.hd.time,rv,vv,nv,lv,tv]∧Bytes w N rv s.hd.root∧Bytes w N vv s.hd.vals∧Bytes w N nv s.hd.next∧ZD w N lv s.vals∧ZE w N tv s.votes
theorem SgV.below {s:Sg} (k:SgV w N v s) (hg:Below N w w'):SgV w' N v s:=by
  obtain ⟨rv,vv,nv,lv,tv,rfl,h1,h2,h3,h4,h5⟩:=k;exact ⟨rv,vv,nv,lv,tv,rfl,h1.below hg,h2.below hg,h3.below hg,h4.below hg,h5.below hg⟩
theorem SgV.mono {s:Sg} (k:SgV w N v s) (hg:N≤g):SgV w g v s:=by
  obtain ⟨rv,vv,nv,lv,tv,rfl,h1,h2,h3,h4,h5⟩:=k;exact ⟨rv,vv,nv,lv,tv,rfl,h1.mono hg,h2.mono hg,h3.mono hg,h4.mono hg,h5.mono hg⟩
theorem Row.eight {a b c d e f x:Value} (h:Row w g t [a,b,c,d,e,f,x,v]) :
    w.cell? ⟨g,0,none⟩=some a∧w.cell? ⟨g,1,none⟩=some b∧w.cell? ⟨g,2,none⟩=some c∧w.cell? ⟨g,3,none⟩=some d∧w.cell? ⟨g,4,none⟩=some e∧w.cell? ⟨g,5,none⟩=some f∧w.cell? ⟨g,6,none⟩=some x∧w.cell? ⟨g,7,none⟩=some v :=
  ⟨h.cell 0,h.cell 1,h.cell 2,h.cell 3,h.cell 4,h.cell 5,h.cell 6,h.cell 7⟩
def QbG:Value→Bool
  | .string _=>true
  | .int .i64 _=>true
  | .slice _ _ _=>true
  | _=>false
theorem QjQ {b o:Nat} {x:Value} (hr:Row w g t cs) (hp:cs.all QbG=true) (ho:∀ k,k≠g→w'.heap[k]?=w.heap[k]?) (hc:w.cell? ⟨b,o,none⟩=some x) (hx:QbG x=false):w'.cell? ⟨b,o,none⟩=some x:=by
  have hb:b≠g:=by
    rintro rfl;rw [hr.cell] at hc;have:=CV.1 hp x (Bn hc);rw [hx] at this
    cases this
  rw [← hc];exact D9 (ho b hb)
theorem Bytes.only (h:Bytes w N sv l) (hr:Row w g t cs) (hp:cs.all QbG=true) (ho:∀ k,k≠g→w'.heap[k]?=w.heap[k]?):Bytes w' N sv l:=by grind [Bytes,QbG,QjQ]
theorem Ja.only (h:Ja w N sv k rs) (hr:Row w g t cs) (hp:cs.all QbG=true) (hq:∀ r∈rs,∀ x∈r,QbG x=false) (ho:∀ k,k≠g→w'.heap[k]?=w.heap[k]?):Ja w' N sv k rs:=by
  rcases h with h | h | ⟨b,off,cap,h1,h2,h3⟩
  · exact .inl h
  · exact .inr (.inl h)
  · exact .inr (.inr ⟨b,off,cap,h1,h2,fun i r hi=>⟨(h3 i r hi).1,fun j x hx=>QjQ hr hp ho ((h3 i r hi).2 j x hx) (hq r (Bn hi) x (Bn hx))⟩⟩)
theorem ZD.only {l:List Vl} (h:ZD w N sv l) (hr:Row w g t cs) (hp:cs.all QbG=true) (ho:∀ k,k≠g→w'.heap[k]?=w.heap[k]?):ZD w' N sv l:=by grind [ZD,QbG,Ja.only,QmZ]
theorem ZE.only {l:List Vt} (h:ZE w N sv l) (hr:Row w g t cs) (hp:cs.all QbG=true) (ho:∀ k,k≠g→w'.heap[k]?=w.heap[k]?):ZE w' N sv l :=
  Ja.only h hr hp (fun r hr x hx=>by
    obtain ⟨v,_,rfl⟩:=BC.1 hr;simp [Qpg] at hx
    rcases hx with rfl | rfl | rfl <;> rfl) ho
theorem SgV.only {s:Sg} (h:SgV w N v s) (hr:Row w g t cs) (hp:cs.all QbG=true) (ho:∀ k,k≠g→w'.heap[k]?=w.heap[k]?):SgV w' N v s:=by
  obtain ⟨rv,vv,nv,lv,tv,rfl,h1,h2,h3,h4,h5⟩:=h;exact ⟨rv,vv,nv,lv,tv,rfl,h1.only hr hp ho,h2.only hr hp ho,h3.only hr hp ho,h4.only hr hp ho,h5.only hr hp ho⟩
theorem Qc4 (c:UInt8) (w:World):Calls prog 38 #[.int .u8 (c.toNat:Int)] w fun e w'=>e=.returned (.bool (Qe3 c))∧w'=w:=by
  unfold Qe3
  by_cases h1:97≤c.toNat
  · have e1:decide ((97:Int)≤(c.toNat:Int))=true:=by simp;omega
    by_cases h2:c.toNat≤122
    · have e2:decide ((c.toNat:Int)≤122)=true:=by simp;omega
      go_in
      go_wp2;go_ret;exact ⟨by simp [h1,h2],rfl⟩
    · have e2:decide ((c.toNat:Int)≤122)=false:=by simp;omega
      have e4:decide ((c.toNat:Int)≤57)=false:=by grind
      go_in
      go_wp2;go_ret
      exact ⟨by have:¬ c.toNat≤57:=by omega
                simp [h2,this],rfl⟩
  · have e1:decide ((97:Int)≤(c.toNat:Int))=false:=by simp;omega
    by_cases h3:48≤c.toNat
    · have e3:decide ((48:Int)≤(c.toNat:Int))=true:=by simp;omega
      by_cases h4:c.toNat≤57
      · have e4:decide ((c.toNat:Int)≤57)=true:=by simp;omega
        go_in
        go_wp2;go_ret;exact ⟨by simp [h3,h4],rfl⟩
      · have e4:decide ((c.toNat:Int)≤57)=false:=by simp;omega
        go_in
        go_wp2;go_ret;exact ⟨by simp [h1,h4],rfl⟩
    · have e3:decide ((48:Int)≤(c.toNat:Int))=false:=by simp;omega
      go_in
      go_wp2;go_ret;exact ⟨by simp [h1,h3],rfl⟩
theorem Qa3 (s:ByteArray) (w:World) (hs:s.size≤140737488351232):Calls prog 13 #[.string s] w fun e w'=>e=.returned (.bool (Zc s))∧w'=w:=by
  by_cases h1:s.size<1
  · have e1:decide ((s.size:Int)<1)=true:=by simp;omega
    have HN:=hid (Qgg (.inl h1))
    go_in
    go_wp2;go_ret;exact ⟨by rw [HN.out];first | done | rfl,rfl⟩
  · have e1:decide ((s.size:Int)<1)=false:=by simp;omega
    by_cases h2:20<s.size
    · have e2:decide ((20:Int)<(s.size:Int))=true:=by simp;omega
      have HN:=hid (Qgg (.inr h2))
      go_in
      go_wp2;go_ret;exact ⟨by rw [HN.out];first | done | rfl,rfl⟩
    · have e2:decide ((20:Int)<(s.size:Int))=false:=by simp;omega
      go_in
      go_wp2
      go_loop [3,14] (fun _ i=>∃ k:Nat,k≤s.size∧i=Bb (k:Int)∧Hid (∀ j (hj:j<s.size),j<k→Qe3 s[j]=true)) (fun _ i=>s.size-(intOf i).toNat)
      case atStart=>exact ⟨0,by omega,rfl,hid (fun j _ hj=>absurd hj (by omega))⟩
      case round =>
        obtain ⟨k,hk,rfl,HR⟩:=hrel
        by_cases b:k<s.size
        · have hlt':(k:Int)<(s.size:Int):=by omega
          by_cases hc:Qe3 s[k]=true
          · go_wp2_with (go_at_call 38;refine (Qc4 _ _).mono ?_;rintro e w' ⟨rfl,rfl⟩)
            go_round
            case rel=>exact ⟨k+1,by omega,by go_num,hid (fun j hj hj2=>by
              by_cases e:j=k
              · simp_all
              · exact HR.out j hj (by omega))⟩
            case measure=>simp [intOf];omega
          · have hc':Qe3 s[k]=false:=by simpa using hc
            have HN:=hid (Qsr k b hc')
            go_wp2_with (go_at_call 38;refine (Qc4 _ _).mono ?_;rintro e w' ⟨rfl,rfl⟩)
            go_ret;exact ⟨by rw [HN.out];first | done | rfl,rfl⟩
        · have hge:decide ((k:Int)<(s.size:Int))=false:=by simp;omega
          go_wp2;go_ret;exact ⟨by rw [Qqr (by omega) (by omega) (fun j hj=>HR.out j hj (by omega))];first | done | rfl,rfl⟩
theorem Qq7 (h:Hd) (v:Value) (N:Nat) (w:World) (hv:HdV w N v h) (hf:h.fits) :
    Calls prog 240 #[v] w fun e w'=>e=.returned (Bb (Js h))∧Bd w w':=by
  obtain ⟨rv,vv,nv,rfl,h1,h2,h3⟩:=hv;obtain ⟨o1,c1,rfl,_⟩:=h1.shape;obtain ⟨o2,c2,rfl,_⟩:=h2.shape;obtain ⟨o3,c3,rfl,_⟩:=h3.shape;obtain ⟨f1,f2,f3,f4⟩:=hf;clear h1 h2 h3;obtain ⟨w0,b⟩:∃ w0,w.alloc (.cells #[.string h.chain,Bb h.height,Bb h.time,.slice o1 h.root.length c1,.slice o2 h.vals.length c2,.slice o3 h.next.length c3] 33)=w0:=⟨_,rfl⟩;have j:=hid (show Bd w w0 by rw [← b];exact (Bi _ _).alloc (Bj _) _)
  have kk:=(show Row w0 w.heap.size 33 [.string h.chain,Bb h.height,Bb h.time,.slice o1 h.root.length c1,.slice o2 h.vals.length c2,.slice o3 h.next.length c3] by rw [← b];exact Row.new _ _ _).cell
  have HW:=hid (show Js h=if (!Zc h.chain)=true then 7 else if (decide (h.height<1) || decide (1000000000000<h.height) || decide (h.time<0) || decide (1000000000000<h.time))=true then 3 else if (((h.root.length:Int) != 32) || ((h.vals.length:Int) != 32) || ((h.next.length:Int) != 32))=true then 2 else 0 by grind [Js])
  cases q0:Zc h.chain
  rotate_left
  cases q1:decide (h.height<1)
  cases q2:decide (1000000000000<h.height)
  cases q3:decide (h.time<0)
  cases q4:decide (1000000000000<h.time)
  cases q5:((h.root.length:Int) != 32)
  cases q6:((h.vals.length:Int) != 32)
  cases q7:((h.next.length:Int) != 32)
  all_goals
    go_in
    go_wp2_with (go_at_call 13;refine (Qa3 _ _ f1).mono ?_;rintro e w' ⟨rfl,rfl⟩)
    go_ret;exact ⟨by rw [HW.out];simp [*];first | done | rfl,j.out⟩
def QvP (f:FuncId):Prop:=∀ (l:List Vl) (sv:Value) (N:Nat) (w:World),ZD w N sv l→N≤w.heap.size→l.length<2305843009213693952 →
  Calls prog f #[sv] w fun e w'=>e=.returned (Bb (JD l))∧Bd w w'
theorem Jq (w:World) (n N:Nat):Below N w (w.drewN n):=⟨rfl,rfl,rfl,Bj _,fun _ _=>rfl⟩
theorem Qj7 (l:List Vl) (h:l.length<1∨10<l.length):JD l=5:=by grind [JD]
theorem Qtz (l:List Vl) (h:¬ (l.length<1∨10<l.length)):JD l=Qaa (QbT l 0) (l.drop 0):=by unfold JD;rw [if_neg h];rfl
theorem Qn0 (l:List Vl):QbT l 0=none:=rfl
theorem QnZ (l:List Vl) (j:Nat) (y:Vl) (h:l[j]?=some y):QbT l (j+1)=some y.key:=by simp [QbT,h]
theorem Qu1: QvP 214:=by
  intro l sv N w hb hN hlen;obtain ⟨oa,ca,rfl,hca⟩:=hb.shape;have HB:=hid hb;clear hb;generalize hn:l.length=n at *;have HN:=hid hn;clear hn
  by_cases h1:n<1
  · have e1:decide ((n:Int)<1)=true:=by simp;omega
    have HV:=hid (Qj7 l (.inl (by rw [HN.out];exact h1)))
    go_in
    go_wp2;go_ret;exact ⟨by rw [HV.out];first | done | rfl,Bi _ _⟩
  · have e1:decide ((n:Int)<1)=false:=by simp;omega
    by_cases h2:10<n
    · have e2:decide ((10:Int)<(n:Int))=true:=by simp;omega
      have HV:=hid (Qj7 l (.inr (by rw [HN.out];exact h2)))
      go_in
      go_wp2;go_ret;exact ⟨by rw [HV.out];first | done | rfl,Bi _ _⟩
    · have e2:decide ((10:Int)<(n:Int))=false:=by simp;omega
      have HV:=hid (Qtz l (by rw [HN.out];omega))
      go_in
      go_wp2
      go_loopw [3,4,15] (fun _ _ i wr=>∃ k:Nat,k≤n∧i=Bb (k:Int)∧Hid (Bd w wr∧JD l=Qaa (QbT l k) (l.drop k))) (fun _ _ i _=>n-(intOf i).toNat)
      case atStart=>exact ⟨0,by omega,rfl,hid ⟨Bi _ _,HV.out⟩⟩
      case round =>
        obtain ⟨k,hk,rfl,HT⟩:=hrel;have O:=HT.out.1.size
        by_cases T:k<n
        · obtain ⟨v,hv⟩:∃ v,l[k]?=some v:=⟨l[k]'(by rw [HN.out];exact T),Bk _⟩
          obtain ⟨b,o,rfl,e⟩:=HB.out.spot (by omega)
          obtain ⟨hbN,d0,d1⟩:=e k v hv;have I:b<w.heap.size:=by omega
          have f0:=(HT.out.1.cell (p:=⟨b,o+k*2,none⟩) I).trans d0;have f1:=(HT.out.1.cell (p:=⟨b,o+k*2+1,none⟩) I).trans d1;have G:=hid (QqZ l k v hv);have hlt':(k:Int)<(n:Int):=by omega
          obtain ⟨w2,D⟩:∃ w2,wr.alloc (.cells #[.int .u64 (v.key:Int),.int .u64 (v.power:Int)] 304)=w2:=⟨_,rfl⟩;have E:=bof D;have z:=hid (HT.out.1.trans (E.mono O));have q:Row w2 wr.heap.size 304 [.int .u64 (v.key:Int),.int .u64 (v.power:Int)]:=by rw [← D];exact Row.new _ _ _
          have q0:=q.cell 0;have q1:=q.cell 1;have C:=hid D;clear d0 d1 E q D
          by_cases Y:v.power<1
          · have g1:decide ((v.power:Int)<1)=true:=by simp;omega
            have m:=hid (show JD l=3 by rw [HT.out.2,G.out,if_pos (.inl Y)])
            go_wp2_with fail
            rw [C.out];go_wp2;go_ret;exact ⟨by rw [m.out];first | done | rfl,z.out⟩
          · have g1:decide ((v.power:Int)<1)=false:=by simp;omega
            by_cases aA:1000000<v.power
            · have g2:decide ((1000000:Int)<(v.power:Int))=true:=by simp;omega
              have m:=hid (show JD l=3 by rw [HT.out.2,G.out,if_pos (.inr aA)])
              go_wp2_with fail
              rw [C.out];go_wp2;go_ret;exact ⟨by rw [m.out];first | done | rfl,z.out⟩
            · have g2:decide ((1000000:Int)<(v.power:Int))=false:=by simp;omega
              have A:=hid (G.out.trans (if_neg (by omega)))
              cases k with
              | zero =>
                have m:=hid (show JD l=Qaa (QbT l 1) (l.drop 1) by rw [HT.out.2,A.out,if_neg (by simp [Qn0,Qfy])])
                have f0':wr.cell? ⟨b,o,none⟩=some (.int .u64 (v.key:Int)):=by simpa using f0
                have f1':wr.cell? ⟨b,o+1,none⟩=some (.int .u64 (v.power:Int)):=by simpa using f1
                clear e
                go_wp2_with fail
                rw [C.out]
                go_wp2_with fail
                go_quiet (fail)
                go_wp2;go_roundw
                case rel=>exact ⟨1,by omega,by go_num,hid ⟨z.out.trans (Jq _ _ _),m.out⟩⟩
                case measure=>simp [intOf];omega
              | succ j =>
                obtain ⟨y,hy⟩:∃ y,l[j]?=some y:=⟨l[j]'(by rw [HN.out];omega),Bk _⟩
                obtain ⟨_,t0,t1⟩:=e j y hy;have t0':=(z.out.cell (p:=⟨b,o+j*2,none⟩) I).trans t0;have L:=hid (QnZ l j y hy);have S:((j+1:Nat):Int)-1=(j:Int):=by omega
                have hj2:IntKind.i64.wrap (((j+1:Nat):Int)-1)=(j:Int):=by rw [S];simp [IntKind.wrap,IntKind.bits,IntKind.signed];split <;> omega
                have hjn:(j:Int)<(n:Int):=by omega
                have e4:decide ((0:Int)<((j+1:Nat):Int))=true:=BB (by omega)
                clear e hy t0 t1
                by_cases M:v.key≤y.key
                · have g5:decide ((v.key:Int)≤(y.key:Int))=true:=by simp;omega
                  have m:=hid (show JD l=2 by rw [HT.out.2,A.out,L.out,if_pos (by simpa [Qfy] using M)])
                  go_wp2_with fail
                  rw [C.out]
                  go_wp2_with fail
                  go_quiet (fail)
                  go_wp2;go_ret;exact ⟨by rw [m.out];first | done | rfl,z.out.trans (Jq _ _ _)⟩
                · have g5:decide ((v.key:Int)≤(y.key:Int))=false:=by simp;omega
                  have m:=hid (show JD l=Qaa (QbT l (j+2)) (l.drop (j+2)) by rw [HT.out.2,A.out,L.out,if_neg (by simpa [Qfy] using M)])
                  go_wp2_with fail
                  rw [C.out]
                  go_wp2_with fail
                  go_quiet (fail)
                  go_wp2;go_roundw
                  case rel=>exact ⟨j+2,by omega,by go_num,hid ⟨z.out.trans (Jq _ _ _),m.out⟩⟩
                  case measure=>simp [intOf];omega
        · have hge:decide ((k:Int)<(n:Int))=false:=by simp;omega
          have m:=hid (show JD l=0 by rw [HT.out.2,Qou l k (by rw [HN.out];omega)])
          go_wp2;go_ret;exact ⟨by rw [m.out];first | done | rfl,HT.out.1⟩
def Zm (p:Nat→Bool):Nat→List Vl→Nat
  | _,[]=>0
  | k,v :: r=>(if p k then v.power else 0)+Zm p (k+1) r
theorem Qfl (p:Nat→Bool):∀ (a b:List Vl) (k:Nat),Zm p k (a ++ b)=Zm p k a+Zm p (k+a.length) b
  | [],b,k=>by simp [Zm]
  | v :: a,b,k=>by
    rw [By,Zm,Qfl p a b (k+1),Zm,Cy,show k+1+a.length=k+(a.length+1) by omega]
    omega
theorem Qoo (p:Nat→Bool) (l:List Vl) (k:Nat) (v:Vl) (h:l[k]?=some v):Zm p 0 (l.take (k+1))=Zm p 0 (l.take k)+(if p k then v.power else 0):=by
  obtain ⟨hk,rfl⟩:=Bm.1 h;rw [Cx hk,Qfl,C2,DI (by omega)]
  simp [Zm]
theorem Qpq (l:List Vl) (k:Nat) (v:Vl) (h:l[k]?=some v):Qbe (l.take (k+1))=Qbe (l.take k)+v.power:=by
  obtain ⟨hk,rfl⟩:=Bm.1 h;unfold Qbe;rw [Cx hk,Cc,List.sum_append];simp
theorem QmS (p:Nat→Bool):∀ (l:List Vl) (k:Nat),Zm p k l≤Qbe l
  | [],_=>by simp [Zm]
  | v :: l,k=>by
    have ih:=QmS p l (k+1);simp [Zm,Qbe] at ih ⊢
    split <;> omega
theorem QqW (vs:List Vl) (ts:List Vt):∀ (k:Nat) (p:Nat→Bool),ts.length=vs.length→(∀ i t,ts[i]?=some t→p (k+i)=t.is)→Zm p k vs=QgC vs ts:=by
  induction vs generalizing ts with
  | nil=>intro k p h _;simp [Zm,QgC]
  | cons v vs ih =>
    intro k p h hp
    cases ts with
    | nil=>simp at h
    | cons t ts =>
      have h0:=hp 0 t rfl;rw [BK] at h0;rw [Zm,QgC,h0,ih ts (k+1) p (by simpa using h) (fun i t' ht=>by have:=hp (i+1) t' (by simpa using ht);rwa [show k+(i+1)=k+1+i by omega] at this)]
theorem Qon (s:Sg) (l:List Vl):∀ (k:Nat) (p:Nat→Bool),(∀ i v,l[i]?=some v→p (k+i)=Qab v.key s.vals s.votes)→Zm p k l=Qe7 s l:=by
  induction l with
  | nil=>intro k p _;rfl
  | cons v l ih =>
    intro k p hp;have h0:=hp 0 v rfl;rw [BK] at h0;rw [Zm,Qe7,h0,ih (k+1) p (fun i v' hv=>by have:=hp (i+1) v' (by simpa using hv);rwa [show k+(i+1)=k+1+i by omega] at this)]
theorem QjS (f:FuncId) (C:Array Value) (hrun:∀ (A:Array Value) (W:World),(callFunc f A).run prog W=.ok (.enter f A) W) (l:List Vl) (p:Nat→Bool) (sv:Value) (N:Nat) (w:World) (hN:N≤w.heap.size) (hl:ZD w N sv l) (hlen:l.length≤10) (hp:∀ v∈l,v.power≤1000000)
    (m:∀ (k:Nat) (wr:World),k<l.length→Bd w wr→Calls prog f (#[Bb (k:Int)] ++ C) wr fun e w'=>e=.returned (.bool (p k))∧Bd wr w') :
    Calls prog 210 #[sv,.func (.func f) #[] C] w fun e w'=>e=.returned (.tuple #[.int .u64 (Zm p 0 l:Int),.int .u64 (Qbe l:Int)])∧Bd w w':=by
  obtain ⟨oa,ca,rfl,hca⟩:=hl.shape;have HL:=hid hl;have HP:=hid hp;have M:=hid m;clear hl hp m;generalize hn:l.length=n at *;have HN:=hid hn;clear hn
  go_in
  go_wp2_with fail
  go_loopw [4,5,6,7,10] (fun s4 s5 _ _ i wr=>∃ k:Nat,k≤n∧i=Bb (k:Int)∧s4=.int .u64 (Zm p 0 (l.take k):Int)∧s5=.int .u64 (Qbe (l.take k):Int)∧Hid (Bd w wr)) (fun _ _ _ _ i _=>n-(intOf i).toNat)
  case atStart=>exact ⟨0,by omega,rfl,rfl,rfl,hid (Bi _ _)⟩
  case round =>
    obtain ⟨k,hk,rfl,rfl,rfl,HT⟩:=hrel
    by_cases E:k<n
    · have O:=QgF (l.take k) (fun v hv=>HP.out v (DL hv))
      have h2:(l.take k).length≤10:=by grind
      have S:=QmS p (l.take k) 0;obtain ⟨v,hv⟩:∃ v,l[k]?=some v:=⟨l[k]'(by rw [HN.out];exact E),Bk _⟩
      obtain ⟨b,o,rfl,j⟩:=HL.out.spot (by omega)
      obtain ⟨hbN,d0,d1⟩:=j k v hv;have f0:=(HT.out.cell (p:=⟨b,o+k*2,none⟩) (by show b<_;omega)).trans d0
      have f1:=(HT.out.cell (p:=⟨b,o+k*2+1,none⟩) (by show b<_;omega)).trans d1
      have hlt':(k:Int)<(n:Int):=by omega
      have hvp:=HP.out v (Bn hv);have HC:=hid (fun W hb=>M.out k W E (HT.out.trans (Below.mono hb HT.out.size)))
      have HA:=hid (Qpq l k v hv);have L:=hid (Qoo p l k v hv);clear d0 d1 j hv;generalize Qbe (l.take k)=aa at *;generalize Zm p 0 (l.take k)=ss at *;have hwa:IntKind.u64.wrap ((aa:Int)+(v.power:Int))=((aa+v.power:Nat):Int):=Qae aa v.power (by omega)
      have hws:IntKind.u64.wrap ((ss:Int)+(v.power:Int))=((ss+v.power:Nat):Int):=Qae ss v.power (by omega)
      generalize G:p k=pk at *;have HPK:=hid G;clear G O h2 S
      go_wp2_with fail
      refine Qb4 ?_;intro w2 z q;have q1:=z.cell 1
      go_wp2_with fail
      refine (HC.out w2 q).mono ?_;rintro e w3 ⟨rfl,D⟩;have q1':=(z.below D z.lt).cell 1;have I:=hid (HT.out.trans ((q.trans (D.mono q.size)).mono HT.out.size));clear D z q q1
      cases pk
      all_goals
        go_wp2_with fail
        go_roundw
        case rel=>exact ⟨k+1,by omega,by go_num,by rw [L.out];simp,by rw [HA.out];first | rfl | go_num,I⟩
        case measure=>simp [intOf];omega
    · have hge:decide ((k:Int)<(n:Int))=false:=by simp;omega
      have HK:=hid (show l.take k=l from BA (by rw [HN.out];omega))
      rw [HK.out];go_wp2;go_ret2;exact ⟨rfl,HT.out⟩
def QeK (a b:Nat):Int:=if a<b then -1 else if b<a then 1 else 0
theorem Qru (a b:Nat):QeK a b<0↔a<b:=by grind [QeK]
theorem QpG (a b:Nat):QeK a b=0↔a=b:=by grind [QeK]
theorem QfK (a:Nat) (w:World):Calls prog 286 #[.int .u64 (a:Int)] w fun e w'=>e=.returned (.bool false)∧w'=w:=by
  go_in
  go_wp2;go_ret;exact ⟨by simp;first | done | rfl,rfl⟩
theorem Qks (a b:Nat) (w:World):Calls prog 280 #[.int .u64 (a:Int),.int .u64 (b:Int)] w fun e w'=>e=.returned (Bb (QeK a b))∧w'=w:=by
  by_cases h1:a<b
  · have e1:decide ((a:Int)<(b:Int))=true:=by simp;omega
    have HC:=hid (show QeK a b = -1 by unfold QeK;rw [if_pos h1])
    go_in
    go_wp2_with (go_at_call 286;refine (QfK _ _).mono ?_;rintro e w' ⟨rfl,hw⟩;obtain rfl:=hw.symm)
    go_ret;exact ⟨by rw [HC.out];first | done | rfl,rfl⟩
  · have e1:decide ((a:Int)<(b:Int))=false:=by simp;omega
    by_cases h2:b<a
    · have e2:decide ((b:Int)<(a:Int))=true:=by simp;omega
      have HC:=hid (show QeK a b=1 by unfold QeK;rw [if_neg h1,if_pos h2])
      go_in
      go_wp2_with (go_at_call 286;refine (QfK _ _).mono ?_;rintro e w' ⟨rfl,hw⟩;obtain rfl:=hw.symm)
      go_ret;exact ⟨by rw [HC.out];first | done | rfl,rfl⟩
    · have e2:decide ((b:Int)<(a:Int))=false:=by simp;omega
      have HC:=hid (show QeK a b=0 by unfold QeK;rw [if_neg h1,if_neg h2])
      go_in
      go_wp2_with (go_at_call 286;refine (QfK _ _).mono ?_;rintro e w' ⟨rfl,hw⟩;obtain rfl:=hw.symm)
      go_ret;exact ⟨by rw [HC.out];first | done | rfl,rfl⟩
theorem Qkw (v:Vl) (key:Nat) (w:World) :
    Calls prog 266 #[.agg #[.int .u64 (v.key:Int),.int .u64 (v.power:Int)],.int .u64 (key:Int)] w fun e w'=>e=.returned (Bb (QeK v.key key))∧Bd w w':=by
  obtain ⟨w1,b⟩:∃ w1,w.alloc (.cells #[.int .u64 (v.key:Int),.int .u64 (v.power:Int)] 304)=w1:=⟨_,rfl⟩;have j:=hid (show Bd w w1 by rw [← b];exact (Bi _ _).alloc (by omega) _)
  have HC:=hid (Qks v.key key w1);have HW:=hid b;clear b
  go_in
  go_wp2_with fail
  rw [HW.out];refine HC.out.mono ?_;rintro e w2 ⟨rfl,hw2⟩;go_wp2;go_ret;exact ⟨rfl,j.out⟩
def AtV (key:Nat) (l:List Vl) (i:Nat) (fd:Bool):Prop:=i≤l.length∧(∀ t v,t<i→l[t]?=some v→v.key<key)∧(∀ t v,i≤t→l[t]?=some v→key≤v.key)∧(fd=true↔∃ v,l[i]?=some v∧v.key=key)
theorem Qk3 {l:List Vl} (h:l.Pairwise (fun a b=>a.key<b.key)) {j:Nat} {a b:Vl} (e:i<j) (ha:l[i]?=some a) (hb:l[j]?=some b):a.key<b.key:=by
  obtain ⟨hi,rfl⟩:=Bm.1 ha;obtain ⟨hj,rfl⟩:=Bm.1 hb;exact Ee.1 h i j hi hj e
theorem QmI (l:List Vl) (k:Nat) (sv:Value) (N:Nat) (w:World) (hN:N≤w.heap.size) (hl:ZD w N sv l) (hs:l.Pairwise (fun a b=>a.key<b.key)) (j:l.length≤1000000) :
    Calls prog 265 #[sv,.int .u64 (k:Int),.func (.func 266) #[] #[]] w fun e w'=>Bd w w'∧∃ i fd,AtV k l i fd∧e=.returned (.tuple #[Bb (i:Nat),.bool fd]):=by
  refine (Qh7.2.1.list QqV (fun v:Vl=>QeK v.key k) l _ (fun _ _=>rfl) hN hl (by simp [QmZ]) (by simp) j (hs.imp fun h=>by grind [QeK]) fun i r p W hr hp _=>?_).mono ?_
  · rw [Bs,hp] at hr
    obtain rfl:_=r:=by simpa using hr
    exact Qkw p k W
  · rintro e w' ⟨hb,i,fd,h,rfl⟩
    exact ⟨hb,i,fd,by simpa [AtL,AtV,Qru,QpG,← Int.not_lt] using h,rfl⟩
theorem Qew (key:Nat):∀ (vs:List Vl) (ts:List Vt),Qab key vs ts=true↔∃ (i:Nat) (v:Vl) (t:Vt),vs[i]?=some v∧ts[i]?=some t∧v.key=key∧t.is=true
  | [],ts=>by simp [Qab]
  | v :: vs,[]=>by simp [Qab]
  | v :: vs,t :: ts=>by
    rw [Qab,DV,BX,BR,Qew key vs ts]
    constructor
    · rintro (⟨h1,h2⟩ | ⟨i,a,b,h1,h2,h3,h4⟩)
      · exact ⟨0,v,t,rfl,rfl,h1,h2⟩
      · exact ⟨i+1,a,b,by simpa using h1,by simpa using h2,h3,h4⟩
    · rintro ⟨i,a,b,h1,h2,h3,h4⟩
      cases i with
      | zero =>
        obtain rfl:v=a:=by simpa using h1
        obtain rfl:t=b:=by simpa using h2
        exact .inl ⟨h3,h4⟩
      | succ i=>exact .inr ⟨i,a,b,by simpa using h1,by simpa using h2,h3,h4⟩
theorem Qq0 {key:Nat} {vs:List Vl} {t:Vt} (hs:vs.Pairwise (fun a b=>a.key<b.key)) (h:AtV key vs i true) (ht:ts[i]?=some t):Qab key vs ts=t.is:=by
  obtain ⟨v,hv,hk⟩:=h.2.2.2.1 rfl;rw [Df,Qew]
  constructor
  · rintro ⟨j,a,b,h1,h2,h3,h4⟩
    have:j=i:=by
      rcases Eg j i with hlt | rfl | hlt
      · have:=Qk3 hs hlt h1 hv;omega
      · rfl
      · have:=Qk3 hs hlt hv h1;omega
    obtain rfl:t=b:=by simp_all
    exact h4
  · grind
theorem Qm0 {key:Nat} {vs:List Vl} (hs:vs.Pairwise (fun a b=>a.key<b.key)) (h:AtV key vs i false):Qab key vs ts=false:=by
  cases hb:Qab key vs ts with
  | false=>rfl
  | true =>
    obtain ⟨j,a,b,h1,_,h3,_⟩:=(Qew key vs ts).1 hb
    rcases Eg j i with hlt | rfl | hlt
    · have:=h.2.1 j a hlt h1;omega
    · have:=h.2.2.2.2 ⟨a,h1,h3⟩;cases this
    · obtain ⟨v,hv⟩:∃ v,vs[i]?=some v:=⟨vs[i]'(by have:=(Bm.1 h1).1;omega),Bk _⟩
      have h5:=h.2.2.1 i v (by omega) hv
      have h6:=Qk3 hs hlt hv h1;omega
def QvL (f:FuncId):Prop:=∀ (t:List Vl) (s:Sg) (tv v:Value) (N:Nat) (w:World),N≤w.heap.size→ZD w N tv t→SgV w N v s→JD t=0→(∀ v∈t,v.ok)→JD s.vals=0→s.votes.length=s.vals.length →
  Calls prog f #[tv,v] w fun e w'=>e=.returned (.bool (QjR t s))∧Bd w w'
theorem Qq1 (s:Sg) (v:Value) (key N:Nat) (w:World) (hN:N≤w.heap.size) (hv:SgV w N v s) (hs:s.vals.Pairwise (fun a b=>a.key<b.key)) (h10:s.vals.length≤10) (E:s.votes.length=s.vals.length) :
    Calls prog 243 #[v,.int .u64 (key:Int)] w fun e w'=>e=.returned (.bool (Qab key s.vals s.votes))∧Bd w w':=by
  obtain ⟨rv,vv,nv,lv,tv,rfl,h1,h2,h3,h4,h5⟩:=hv;obtain ⟨o1,c1,rfl,_⟩:=h1.shape;obtain ⟨o2,c2,rfl,_⟩:=h2.shape;obtain ⟨o3,c3,rfl,_⟩:=h3.shape;have HT:=hid h5;have HL:=hid h4;obtain ⟨o4,c4,rfl,_⟩:=h4.shape;obtain ⟨o5,c5,rfl,_⟩:=h5.shape;have HS:=hid hs;obtain ⟨w0,G⟩:∃ w0,w.alloc (.cells #[.string s.hd.chain,Bb s.hd.height,Bb s.hd.time,.slice o1 s.hd.root.length c1,.slice o2 s.hd.vals.length c2,.slice o3 s.hd.next.length c3,.slice o4 s.vals.length c4,.slice o5 s.votes.length c5] 37)=w0:=⟨_,rfl⟩;have q:=hid (show Bd w w0 by rw [← G];exact (Bi _ _).alloc (Bj _) _)
  have A:=hid (QiW G);have k6:=A.out.cell 6;have L:=hid (QmI s.vals key _ N w0 (Bh hN q.out.size) (HL.out.below (q.out.mono hN)) hs (by omega))
  generalize hvs:s.vals=vs at *;generalize hts:s.votes=ts at *;generalize hn:vs.length=nv at *;generalize S:ts.length=n at *;subst E;have HN:=hid hn;have I:=hid S
  go_in
  go_wp2_with fail
  refine L.out.mono ?_;rintro e w1 ⟨D,i,fd,M,rfl⟩;have z:=hgo q D;have i7:=(A.out.below D A.out.lt).cell 7;have m:=hid M
  cases fd with
  | false =>
    have C:=hid (Qm0 (ts:=ts) HS.out m.out);go_wp2;go_ret;exact ⟨by rw [C.out];first | done | rfl,z.out⟩
  | true =>
    obtain ⟨v,hv,hvk⟩:=m.out.2.2.2.1 rfl;have O:i<n:=by have:=(Bm.1 hv).1;rw [HN.out] at this;exact this
    obtain ⟨t,ht⟩:∃ t,ts[i]?=some t:=⟨ts[i]'(by rw [I.out];exact O),Bk _⟩
    have C:=hid (Qq0 HS.out m.out ht);obtain ⟨b,p,rfl,j⟩:=HT.out.spot (by omega)
    obtain ⟨hbN,a0,_,_⟩:=j i t ht;have f0:=(z.out.cell (p:=⟨b,p+i*3,none⟩) (by show b<_;omega)).trans a0
    go_wp2;go_ret;exact ⟨by rw [C.out];first | done | rfl,z.out⟩
theorem Qqv (t:List Vl) (s:Sg) (k gs gt:Nat) (o:Option Addr) (c N:Nat) (w:World) (hN:N≤w.heap.size) (ht:ZD w N (.slice o t.length c) t) (x0 x1 x2 x3 x4 x5 x6 x7:Value) (hv:SgV w N (.agg #[x0,x1,x2,x3,x4,x5,x6,x7]) s) (hr:Row w gs 37 [x0,x1,x2,x3,x4,x5,x6,x7])
    (hc:w.cell? ⟨gt,0,none⟩=some (.slice o t.length c)) (hs:s.vals.Pairwise (fun a b=>a.key<b.key)) (z:s.vals.length≤10) (m:s.votes.length=s.vals.length) (v:Vl) (hk:t[k]?=some v) (htl:t.length≤10) :
    Calls prog 242 #[Bb (k:Int),.pointer (some ⟨gs,0,none⟩),.pointer (some ⟨gt,0,none⟩)] w fun e w'=>e=.returned (.bool (Qab v.key s.vals s.votes))∧Bd w w':=by
  have hkl:=(Bm.1 hk).1;obtain ⟨b,p,rfl,j⟩:=ht.spot (by omega)
  obtain ⟨_,a0,_⟩:=j k v hk;obtain ⟨j0,j1,j2,j3,j4,j5,j6,j7⟩:=hr.eight;have HV:=hid (Qq1 s _ v.key N w.drew hN (hv.below (Jq w 1 N)) hs z m);obtain ⟨rv,vv,nv,lv,tv,he,h1,h2,h3,h4,h5⟩:=hv;clear j ht hr hs h1 h2 h3 h4 h5 hk he m
  go_in
  go_wp2_with fail
  refine YW 6 (by kernel_rfl) (by kernel_rfl) ?_
  repeat still_step
  refine Cm ?_
  go_wp2_with fail
  refine HV.out.mono ?_;rintro e w2 ⟨rfl,A⟩;have q:=hid A;go_wp2;go_ret;exact ⟨rfl,(Jq w 1 _).trans q.out⟩
theorem Qv1: QvL 216:=by
  intro t s tv v N w hN ht hv aC aB Y m;have aE:=hid hv;have S:=hid ht;obtain ⟨v1,v2,v3,_⟩:=Zn aC;obtain ⟨_,u2,_,u4⟩:=Zn Y;have aF:=hid u4;have T:=hid v3;obtain ⟨rv,vv,nv,lv,tsv,rfl,h1,h2,h3,h4,h5⟩:=hv;obtain ⟨o1,c1,rfl,_⟩:=h1.shape;obtain ⟨o2,c2,rfl,_⟩:=h2.shape;obtain ⟨o3,c3,rfl,_⟩:=h3.shape;obtain ⟨o4,c4,rfl,_⟩:=h4.shape;obtain ⟨o5,c5,rfl,_⟩:=h5.shape;obtain ⟨o,c,rfl,_⟩:=ht.shape;clear h1 h2 h3 h4 h5 ht u4 v3 aC Y aB;obtain ⟨w0,L⟩:∃ w0,w.alloc (.cells #[.slice o t.length c] 34)=w0:=⟨_,rfl⟩;have A:=bof L;have G:Row w0 w.heap.size 34 [.slice o t.length c]:=by rw [← L];exact Row.new _ _ _
  have aA:w0.heap.size=w.heap.size+1:=by rw [← L];simp
  obtain ⟨w1,aD⟩:∃ w1,w0.alloc (.cells #[.string s.hd.chain,Bb s.hd.height,Bb s.hd.time,.slice o1 s.hd.root.length c1,.slice o2 s.hd.vals.length c2,.slice o3 s.hd.next.length c3,.slice o4 s.vals.length c4,.slice o5 s.votes.length c5] 37)=w1:=⟨_,rfl⟩;have C:=bof aD;have I:=G.below C G.lt;have M:=hid I;have O:=hid (show Row w1 (w.heap.size+1) 37 [.string s.hd.chain,Bb s.hd.height,Bb s.hd.time,.slice o1 s.hd.root.length c1,.slice o2 s.hd.vals.length c2,.slice o3 s.hd.next.length c3,.slice o4 s.vals.length c4,.slice o5 s.votes.length c5] by rw [← aD,← aA];exact Row.new _ _ _)
  have b:=hid (A.trans (C.mono A.size));have k0:=I.cell 0
  have z:=hid (QjS 242 #[.pointer (some ⟨w.heap.size+1,0,none⟩),.pointer (some ⟨w.heap.size,0,none⟩)] (fun _ _=>rfl) t (fun k=>match t[k]? with | some v=>Qab v.key s.vals s.votes | none=>false) _ N w1 (Bh hN b.out.size) (S.out.below (b.out.mono hN)) v2 (fun v hv=>(T.out v hv).2) (fun k wr hk hb=>by
    obtain ⟨v,hv⟩:∃ v,t[k]?=some v:=⟨t[k],Bk hk⟩;have E:=b.out.trans (hb.mono b.out.size);have:=Qqv t s k (w.heap.size+1) w.heap.size o c N wr (Bh hN E.size) (S.out.below (E.mono hN)) _ _ _ _ _ _ _ _ (aE.out.below (E.mono hN)) (O.out.below hb O.out.lt) ((M.out.below hb M.out.lt).cell 0) aF.out u2 m v hv v2;simp only [hv]
    exact this))
  rw [Qon s t 0 _ (fun i v hv=>by rw [Bq];simp only [hv])] at z
  have hle:=Qmp s t;have hal:=QgF t (fun v hv=>(T.out v hv).2)
  have j:=hid (show QjR t s=decide (Qbe t<3*Qe7 s t) from rfl);clear A G C I m;generalize Qe7 s t=oo at *;generalize Qbe t=aa at *
  by_cases h3:aa<3*oo
  · have e3:decide ((aa:Int)<3*(oo:Int))=true:=by simp;omega
    rw [BB h3] at j
    go_in
    go_wp2_with fail
    refine z.out.mono ?_;rintro e w2 ⟨rfl,D⟩;have q:=hgo b D;go_wp2;go_ret;exact ⟨by rw [j.out];first | done | rfl | (simp [e3];first | done | rfl),q.out⟩
  · have e3:decide ((aa:Int)<3*(oo:Int))=false:=by simp;omega
    rw [BD h3] at j
    go_in
    go_wp2_with fail
    refine z.out.mono ?_;rintro e w2 ⟨rfl,D⟩;have q:=hgo b D;go_wp2;go_ret;exact ⟨by rw [j.out];first | done | rfl | (simp [e3];first | done | rfl),q.out⟩
end Go.Proofs.YtnedafiokmjkkaaGreatDoor
