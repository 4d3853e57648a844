/- Plain mathematics of validators, headers and votes. -/
import Derived.Test.YtnedafiokmjkkaaGreatDoorpaSealGood
import Derived.Test.YtnedafiokmjkkaaGreatDoorpaWireBoth
import Derived.Laws.Tables
import Derived.Laws.Rows
import Derived.Deep.MidRow
import Derived.BigFrame
namespace Go.Proofs.YtnedafiokmjkkaaGreatDoor
open Tryz
set_option maxRecDepth 1000000
set_option maxHeartbeats 8000000
open Go.RowKit
variable {W w w' w1:World} {B N g i k n:Nat} {c0 sv v v1 v2 v3 v4 v5 v6 v7:Value} {rs:List (List Value)} {oa:Option Addr} {st t t' ty:TypeId} {o:Oper} {a:Act} {K:Act→World→Prop} {Q:Exit→Act→World→Prop} {cs r xs:List Value} {P:Program} {x y:Operand} {f:FuncId} {R:Ending→World→Prop} {fn:Func} {ev:Operand→Value} {l:List (BitVec 8)}
def Q9 (w:World) (N:Nat) (sv:Value) (k:Nat) (rs:List (List Value)):Prop :=
  (sv=Bc∧rs=[])∨(∃ a cap,sv=.slice (some a) 0 cap∧rs=[]) ∨
  ∃ b off cap,sv=.slice (some ⟨b,off,none⟩) rs.length cap∧rs.length≤cap∧∀ i r,rs[i]?=some r→b<N∧∀ j x,r[j]?=some x→w.cell? ⟨b,off+i*k+j,none⟩=some x
theorem Q9.shape (h:Q9 w N sv k rs):∃ oa b,sv=.slice oa rs.length b∧rs.length≤b:=by grind [Q9]
theorem Q9.spot {e:Nat} (h:Q9 w N (.slice oa n e) k rs) (hl:0<n) :
    ∃ b d,oa=some ⟨b,d,none⟩∧∀ i r,rs[i]?=some r→b<N∧∀ j x,r[j]?=some x→w.cell? ⟨b,d+i*k+j,none⟩=some x:=by grind [Q9]
theorem Q9.below (h:Q9 w N sv k rs) (hg:Below N w w'):Q9 w' N sv k rs:=by
  rcases h with h | h | ⟨b,off,cap,h1,h2,h3⟩
  · exact .inl h
  · exact .inr (.inl h)
  · refine .inr (.inr ⟨b,off,cap,h1,h2,fun i r hr=>?_⟩)
    obtain ⟨hb,hc⟩:=h3 i r hr;exact ⟨hb,fun j x hx=>(hg.cell hb).trans (hc j x hx)⟩
theorem Q9.mono (h:Q9 w N sv k rs) (hN:N≤g):Q9 w g sv k rs:=by grind [Q9]
theorem Qbg {k:Nat}:∀ (rs:List (List Value)) (i j:Nat) (r:List Value),(∀ r∈rs,r.length=k)→rs[i]?=some r→j<k→rs.flatten[i*k+j]?=r[j]?
  | [],i,j,r,_,h,_=>by simp at h
  | a :: rs,i,j,r,hk,h,hj=>by
    have ha:=hk a Ck;rw [CJ]
    cases i with
    | zero =>
      obtain rfl:a=r:=by simp_all
      rw [CR,Bq,Cw (by omega)]
    | succ i =>
      rw [CY (by rw [ha,BO];omega),ha,show (i+1)*k+j-k=i*k+j by rw [BO];omega]
      exact Qbg rs i j r (fun r hr=>hk r (Cr _ hr)) (by simpa using h) hj
theorem QeZ {base e:Nat} (h:w.ownsRow base e k v rs.length rs.flatten) (hk:∀ r∈rs,r.length=k):Q9 w w.heap.size v k rs:=by
  obtain ⟨h1,h2⟩:=h
  rcases h2 with ⟨rfl,h0⟩ | ⟨g,b,d,rfl,_,hg,hn,_,hc,hx⟩
  · exact .inl ⟨rfl,CE.1 h0⟩
  · refine .inr (.inr ⟨g,0,b,rfl,hn,fun i r hr=>⟨(BQ.1 hg).1,fun j x hj=>?_⟩⟩)
    have q:j<k:=by
      have:=(Bm.1 hj).1;rw [hk r (Bn hr)] at this;exact this
    have m:i<rs.length:=(Bm.1 hr).1;rw [CD w g _ d _ _ hg,Bq,← hj,← Qbg rs i j r hk hr q,← hx,BH,if_pos,Dp];have:(i+1)*k≤rs.length*k:=Ct k m;rw [BO] at this;omega
theorem Q9.source {x:Value} (h:Q9 w N x k rs) (hk:∀ r∈rs,r.length=k) (h0:0<k) :
    (x=Bc∧rs=[])∨∃ ad d,x=.slice (some ad) rs.length d∧∀ j v,rs.flatten[j]?=some v→w.cell? (ad.add j)=some v:=by
  rcases h with h | ⟨a,d,rfl,rfl⟩ | ⟨b,off,d,rfl,_,hc⟩
  · exact .inl h
  · exact .inr ⟨a,d,rfl,fun j v hv=>by simp at hv⟩
  · refine .inr ⟨_,d,rfl,fun j v hv=>?_⟩
    have m:(⟨b,off,none⟩:Addr).add j=⟨b,off+j,none⟩:=by unfold Addr.add;split <;> simp_all
    have q:rs.flatten.length=rs.length*k:=by
      rw [List.length_flatten]
      have:∀ (l:List (List Value)),(∀ r∈l,r.length=k)→(l.map List.length).sum=l.length*k:=by
        intro l
        induction l with
        | nil=>simp
        | cons a l ih =>
          intro h;rw [CI,List.sum_cons,ih (fun r hr=>h r (Cr _ hr)),h a Ck,Cy,BO]
          omega
      exact this rs hk
    have hj:j<rs.length*k:=by rw [← q];exact (Bm.1 hv).1
    have hi:j / k<rs.length:=Nat.div_lt_of_lt_mul (by rw [CA];exact hj)
    obtain ⟨r,hr⟩:∃ r,rs[j / k]?=some r:=⟨_,Bk hi⟩;have e:j / k*k+j % k=j:=Nat.div_add_mod' j k;rw [← e,Qbg rs (j / k) (j % k) r hk hr (CQ _ h0)] at hv;have:=(hc (j / k) r hr).2 _ _ hv;rw [m]
    rwa [Da,e] at this
def Qf (t:TypeId) (k:Nat) (w:World) (base:Nat) (v:Value) (rs:List (List Value)):Prop:=(∀ r∈rs,r.length=k∧∀ x∈r,x.oneCell'=true)∧w.ownsRow base t k v rs.length rs.flatten
theorem Qf.shape {base:Nat} (h:Qf t k w base v rs):∃ oa b,v=.slice oa rs.length b∧rs.length≤b:=by
  obtain ⟨_,_,h2⟩:=h
  rcases h2 with ⟨h3,h4⟩ | ⟨g,b,cur,h3,_,_,h4,_⟩
  · simp_all
  · grind
theorem Qf.below {base:Nat} (h:Qf t k w base v rs) (hg:Bd w w'):Qf t k w' base v rs:=⟨h.1,QU h.2 hg⟩
theorem Qf.mono {base base':Nat} (h:Qf t k w base v rs) (hb:base'≤base):Qf t k w base' v rs:=by
  obtain ⟨h0,h1,h2⟩:=h;refine ⟨h0,h1,?_⟩
  rcases h2 with h2 | ⟨g,cap,cur,h3,h4,h5⟩
  · simp_all
  · exact .inr ⟨g,cap,cur,h3,Bh hb h4,h5⟩
theorem Qf.own {base:Nat} (h:Qf t k w base v rs):∀ g,v.ownBlock=some g→base≤g∧g<w.heap.size:=fun g hg=>C3 h.2 g hg
theorem Qf.recs {base:Nat} (h:Qf t k w base v rs):Q9 w w.heap.size v k rs:=by grind [Qf,QeZ]
theorem Qf.keep {base:Nat} (h:Qf t k w base v rs) (hk:∀ g,v.ownBlock=some g→w'.heap[g]?=w.heap[g]?):Qf t k w' base v rs:=by
  obtain ⟨h0,h1,h2⟩:=h;refine ⟨h0,h1,?_⟩
  rcases h2 with h2 | ⟨g,cap,cur,h3,h4,h5,h6⟩
  · exact .inl h2
  · exact .inr ⟨g,cap,cur,h3,h4,(hk g (by rw [h3];rfl)).trans h5,h6⟩
theorem QbI (h:∀ r∈rs,r.length=k∧∀ x∈r,x.oneCell'=true):∀ u∈rs.flatten,u.oneCell'=true:=by grind [List.mem_flatten]
def QcF (t st:TypeId) (k:Nat):Prop:=prog.underlying st=some (.slice t)∧∃ i z B,prog.info? t=some i∧i.zero=some z∧i.size=k∧i.bytes=B∧z.cells.size=k∧0<k∧B≤1000
theorem Qdv {z:Value} (hu:prog.underlying st=some (.slice t)) (hi:(prog.info? t).map (fun i=>(i.zero,i.size,i.bytes))=some (some z,k,B)) (hz:z.cells.size=k) (h0:0<k) (hB:B≤1000):QcF t st k:=by
  obtain ⟨i0,b,d,e,j⟩:=Cj hi;exact ⟨hu,i0,z,B,b,d,e,j,hz,h0,hB⟩
theorem Qoh (hF:QcF t st k) (s x:Operand)
    (ho:o.op=.call { callee:=.builtin .append,args:=#[s,x],argTypes:=#[st,st] })
    (base:Nat) (v:Value) (rs:List (List Value)) (hs:a.eval s=v) (b:Qf t k W base v rs) (sv:Value) (qs:List (List Value)) {M:Nat} (hx:a.eval x=sv) (q:Q9 W M sv k qs)
    (e:∀ r∈qs,r.length=k∧∀ x∈r,x.oneCell'=true) (hl:rs.length+qs.length≤1000000) (d:base≤W.heap.size)
    (h:∀ v' w',Qf t k w' base v' (rs ++ qs)→Below base W w'→W.grownBy w' v.ownBlock→K (a.put o.dst v') w'):o.wp prog a W K Q:=by
  obtain ⟨hu,i0,z,B,j,E,G,I,L,h0,hB⟩:=hF
  rcases q.source (fun r hr=>(e r hr).1) h0 with ⟨rfl,rfl⟩ | ⟨ad,A,rfl,D⟩
  · have m:=run_append_owned_none (P:=prog) (w:=W) base st o.type t i0 k hu j v rs.length rs.flatten b.2
    unfold Oper.wp;simp [execOp,ho,resolve,invoke,builtin,hs,hx,m,Result.andThen];exact h v W (by simpa using b) (Bi _ _) (YR _ _)
  · have C:(rs.length+qs.length)*B≤140737488355328:=by
      have h1:=CM hl hB;omega
    refine wp_append_own W s x st ho base t i0 z k B hu j E G I L h0 v rs.length rs.flatten hs b.2 ad qs.length A qs.flatten hx (YD qs (fun r hr=>(e r hr).1)) D (QbI e) (by unfold maxLen;omega) C d ?_
    intro v' w' h1 h2 _;refine h v' w' ⟨fun r hr=>?_,?_⟩ ((Bi base W).grown h2 d (fun k hk=>(C3 b.2 k hk).1)) h2
    · rcases By.1 hr with hr | hr
      · exact b.1 r hr
      · exact e r hr
    · rw [Bs,CX]
      exact h1
theorem Qdj (hF:QcF t st k) {j:Array Oper} {rest:List Oper} (m:o.guard=none) (s x:Operand)
    (ho:o.op=.call { callee:=.builtin .append,args:=#[s,x],argTypes:=#[st,st] })
    (base:Nat) (v:Value) (rs:List (List Value)) (hs:a.eval s=v) (d:Qf t k W base v rs) (sv:Value) (qs:List (List Value)) {M:Nat} (hx:a.eval x=sv) (e:Q9 W M sv k qs)
    (q:∀ r∈qs,r.length=k∧∀ x∈r,x.oneCell'=true) (hl:rs.length+qs.length≤1000000) (b:base≤W.heap.size)
    (h:∀ v' w',Qf t k w' base v' (rs ++ qs)→Below base W w'→W.grownBy w' v.ownBlock→wpList prog j Q rest (a.put o.dst v') w'):wpList prog j Q (o :: rest) a W :=
  CW m fun _ hK=>Qoh hF s x ho base v rs hs d sv qs hx e q hl b fun v' w' h1 h2 h3=>hK _ _ (h v' w' h1 h2 h3)
theorem ZJ (hF:QcF t st k) {C:Array Oper} {rest:List Oper} (G:o.guard=none) (s x:Operand)
    (ho:o.op=.call { callee:=.builtin .append,args:=#[s,x],argTypes:=#[st,st] })
    (base:Nat) (v:Value) (rs:List (List Value)) (hs:a.eval s=v) (j:Qf t k W base v rs) (ad:Addr) (c:Nat) (r:List Value) {M:Nat} (hx:a.eval x=.slice (some ad) 1 c) (A:Q9 W M (.slice (some ad) 1 c) k [r])
    (m:∀ q∈[r],q.length=k∧∀ x∈q,x.oneCell'=true) (hl:rs.length≤100000) (d:base≤W.heap.size)
    (h:∀ g b w',Qf t k w' base (.slice (some ⟨g,0,none⟩) (rs.length+1) b) (rs ++ [r])→Below base W w'→W.grownBy w' v.ownBlock→(v.ownBlock=some g∨g=W.heap.size)→wpList prog C Q rest (a.put o.dst (.slice (some ⟨g,0,none⟩) (rs.length+1) b)) w'):wpList prog C Q (o :: rest) a W:=by
  obtain ⟨hu,i0,z,B,I,L,O,S,T,h0,hB⟩:=hF
  rcases A.source (fun r hr=>(m r hr).1) h0 with ⟨e,_⟩ | ⟨ad',b,e,E⟩
  · cases e
  · simp only [List.length_singleton,DI,C4] at e
    obtain ⟨rfl,-,rfl⟩:=e
    have D:(rs.length+1)*B≤140737488355328:=by
      have h1:=CM (show rs.length+1≤100001 by omega) hB
      omega
    refine wpList_append_lies W G s x st ho base t i0 z k B hu I L O S T h0 v rs.length rs.flatten hs j.2 ad 1 c [r].flatten hx (by simp [(m r (by simp)).1]) E (QbI m) (by decide) (by unfold maxLen;omega) D d W.heap.size rfl ?_
    intro g b w' h1 h2 h3 _;refine h g b w' ⟨fun q hq=>?_,?_⟩ ((Bi base W).grown h2 d (fun k hk=>(C3 j.2 k hk).1)) h2 h3
    · rcases By.1 hq with hq | hq
      · exact j.1 q hq
      · exact m q hq
    · rw [Bs,CX]
      exact h1
theorem QgB (h:Row W g t r):Q9 W (g+1) (.slice (some ⟨g,0,none⟩) 1 1) k [r]:=by
  refine .inr (.inr ⟨g,0,1,rfl,Bj _,fun i r' hr=>?_⟩)
  have hi:i=0:=by have:=(Bm.1 hr).1;simp at this;exact this
  subst hi;obtain rfl:r=r':=by simpa using hr
  refine ⟨by omega,fun j x hx=>?_⟩
  rw [h.cell,show 0+0*k+j=j by omega]
  exact hx
theorem Qf.row {base:Nat} {ps:List (List Value)} (h:Qf t k w base v ps) (h0:0<ps.length):∃ g c cs,v=.slice (some ⟨g,0,none⟩) ps.length c∧base≤g∧Row w g t cs∧ps.length≤c∧c≤maxLen∧cs.length=c*k∧cs.take (ps.length*k)=ps.flatten:=by
  obtain ⟨_,h1,h2⟩:=h
  rcases h2 with ⟨_,h3⟩ | ⟨g,c,b,h3,h4,h5,h6,h7,h8,h9⟩
  · omega
  · exact ⟨g,c,b.toList,h3,h4,h5,h6,h7,by simpa using h8,h9⟩
theorem Qf.of_row {base c:Nat} {ps:List (List Value)} (b:∀ r∈ps,r.length=k∧∀ x∈r,x.oneCell'=true) (hb:base≤g) (hr:Row w g t cs) (hn:n=ps.length) (hc:n≤c) (hm:c≤maxLen) (hl:cs.length=c*k) (ht:cs.take (n*k)=ps.flatten):Qf t k w base (.slice (some ⟨g,0,none⟩) n c) ps:=by
  subst hn;exact ⟨b,YD ps (fun r hr=>(b r hr).1),.inr ⟨g,c,cs.toArray,rfl,hb,hr,hc,hm,by simpa using hl,ht⟩⟩
theorem QnJ: QcF 90 25 3:=Qdv (z:=.agg #[Bb 0,Bb 0,Bc]) (B:=40) underlying25 (by kernel_rfl) rfl (by decide) (by decide)
theorem QqU (g o j:Nat):(⟨g,o,none⟩:Addr).add j=⟨g,o+j,none⟩:=by unfold Addr.add;split <;> simp_all
def okR (k:Nat) (ps:List (List Value)):Prop:=∀ r∈ps,r.length=k∧∀ x∈r,x.oneCell'=true
theorem Qos (hF:QcF t st k) {o b m m' sc:Nat} (hr:Row w g t cs) (hs:Row w b t xs) (hv:r.length=m*k) (hg:∀ j u,r[j]?=some u→xs[i+j]?=some u) (hl:o+m*k≤cs.length) (h1:∀ u∈r,u.oneCell'=true) (d:Nat.min m' n=m) :
    ∀ ty,(Builtin.copy_ #[st,st] ty #[.slice (some ⟨g,o,none⟩) n N,.slice (some ⟨b,i,none⟩) m' sc]).run prog w=.ok (goInt (m:Int)) (w.setCells g o r):=fun ty=>by
  obtain ⟨hu,i0,z,B,e,hz0,q,-⟩:=hF
  have:=QiJ (P:=prog) w st st ty t k g o n N ⟨b,i,none⟩ m' sc r hu (by rw [e];exact Bl some q) (by rw [d];exact hv) (fun j u hj=>by rw [QqU,hs.cell];exact hg j u hj)
    (fun j hj=>by rw [hr.cell,Bk (by omega)];rfl) (fun j _=>hr.frozen _) h1
  rw [d] at this;exact this
theorem okR.flat {ps:List (List Value)} (h:okR k ps):ps.flatten.length=ps.length*k:=YD ps fun r hr=>(h r hr).1
theorem QpH (hF:QcF t st k) {ps:List (List Value)} {base c:Nat} (z:base≤g) (q:Row w g t cs) (D:cs.length=c*k) (M:c≤maxLen) (L:cs.take (ps.length*k)=ps.flatten) (b:okR k ps) (hv:Row w N t r) (h1:okR k [r]) (S:N≠g) (hi:i<ps.length) (e:ps.length+1≤c) :
    ∃ W1 W2,(∀ dc sc ty,(Builtin.copy_ #[st,st] ty #[.slice (some ⟨g,(i+1)*k,none⟩) (ps.length-i) dc,.slice (some ⟨g,i*k,none⟩) (ps.length+1-i) sc]).run prog w.drew=.ok (goInt ((ps.length-i:Nat):Int)) W1) ∧
      (∀ dc ty,(Builtin.copy_ #[st,st] ty #[.slice (some ⟨g,i*k,none⟩) (ps.length+1-i) dc,.slice (some ⟨N,0,none⟩) 1 1]).run prog W1=.ok (goInt ((1:Nat):Int)) W2)∧w.grownBy W2 (some g)∧Qf t k W2 base (.slice (some ⟨g,0,none⟩) (ps.length+1) c) (QcW ps i r):=by
  obtain ⟨C,G⟩:=h1 r (BR.2 rfl);have O:=b.flat;have e1:(i+1)*k=i*k+k:=BO i k;have e2:(ps.length-i)*k=ps.length*k-i*k:=Nat.sub_mul ..;have e3:(i+1)*k≤ps.length*k:=Ct k hi;have e4:(ps.length+1)*k≤c*k:=Ct k e;have e5:(ps.length+1)*k=ps.length*k+k:=BO ..;have A:(ps.flatten.drop (i*k)).length=ps.length*k-i*k:=by rw [Dh,O]
  have I:=Row.setCells (ps.flatten.drop (i*k)) ((i+1)*k) _ _ q.drew (by rw [A];omega)
  have d:(QaH cs ((i+1)*k) (ps.flatten.drop (i*k))).length=c*k:=by rw [YS _ _ _ (by rw [A];omega),D]
  have E:w.grownBy (w.drew.setCells g ((i+1)*k) (ps.flatten.drop (i*k))) (some g):=Qo (⟨rfl,rfl,rfl,Bj _,fun _ _ _=>rfl⟩:w.grownBy w.drew _) (Jb g _ _ w.drew)
  refine ⟨_,_,fun dc sc=>Qos hF q.drew q.drew (A.trans e2.symm) (fun j u hj=>?_) (by rw [D,e2];omega) (fun u hu=>QbI b u (Du hu)) (by simp only [Nat.min_def];split <;> omega),fun dc=>Qos hF I (hv.grown E (by simpa using S)) (m:=1) (by rw [C,C1]) (fun j u hj=>by rwa [Bq]) (by rw [d];omega) G (by simp only [Nat.min_def];split <;> omega),
    Qo E (Jb g _ _ _),Qf.of_row (QlI b ⟨C,G⟩) z (Row.setCells _ _ _ _ I (by rw [d];omega)) (by rw [Qf4 _ _ _ (by omega)]) e M (by rw [YS _ _ _ (by rw [d];omega),d]) ?_⟩
  · rw [Cp] at hj
    exact Zz L _ u hj
  · rw [QbM _ _ _ (by rw [d];omega) _ (by omega),Qe1 _ _ _ (by omega) _ (by omega),C,← e1,Qqh _ _ _ (by omega),DE (by omega),show (ps.flatten.drop (i*k)).take _=_ from Bw (by omega),Qjk (fun r hr=>(b r hr).1),← L,List.take_take,DJ (by omega)]
theorem QrF (hF:QcF t st k) {ps:List (List Value)} {base c:Nat} (hbase:base≤g) (b:Row w g t cs) (aC:cs.take (ps.length*k)=ps.flatten) (d:okR k ps) (hv:Row w N t r) (h1:okR k [r]) (hi:i<ps.length) (hnc:ps.length≤c) (L:c<ps.length+1) (hl:ps.length≤1000) :
    ∃ G W1 W2 W3,ps.length+1≤G∧(∀ ty,(Builtin.append_ #[st,3] ty #[.slice (some ⟨g,0,none⟩) i c,Bb ((ps.length:Int)+1-(i:Int))]).run prog w=.ok (.slice (some ⟨w.heap.size,0,none⟩) (ps.length+1) G) W1) ∧
      (∀ dc ty,(Builtin.copy_ #[st,st] ty #[.slice (some ⟨w.heap.size,i*k,none⟩) (ps.length+1-i) dc,.slice (some ⟨N,0,none⟩) 1 1]).run prog W1=.ok (goInt ((1:Nat):Int)) W2) ∧
      (∀ dc sc ty,(Builtin.copy_ #[st,st] ty #[.slice (some ⟨w.heap.size,(i+1)*k,none⟩) (ps.length-i) dc,.slice (some ⟨g,i*k,none⟩) (ps.length-i) sc]).run prog W2.drew=.ok (goInt ((ps.length-i:Nat):Int)) W3)∧w.grownBy W3 (some g)∧Qf t k W3 base (.slice (some ⟨w.heap.size,0,none⟩) (ps.length+1) G) (QcW ps i r):=by
  obtain ⟨I,Y⟩:=h1 r (BR.2 rfl);obtain ⟨hu,i0,z,B,aI,aL,aN,aE,aM,hk0,hB⟩:=id hF;have O:=d.flat;have e1:(i+1)*k=i*k+k:=BO i k;have e2:(ps.length-i)*k=ps.length*k-i*k:=Nat.sub_mul ..;have e3:(i+1)*k≤ps.length*k:=Ct k hi;have e5:(ps.length+1)*k=ps.length*k+k:=BO ..;have A:(ps.flatten.take (i*k)).length=i*k:=by rw [C2,O];omega
  have T:(Builtin.firstCells i0.size i (.slice (some ⟨g,0,none⟩) i c)).run prog w.drew=.ok (ps.flatten.take (i*k)).toArray w.drew:=by
    rw [aN];refine run_firstCells_some w.drew k i ⟨g,0,none⟩ i c _ A fun j u hj=>?_
    rw [QqU,Bq,b.drew.cell];rw [BH] at hj
    split at hj
    · exact Zz aC _ u hj
    · cases hj
  have D:=Dv w (ps.length+1) c t;have aF:=DK w (ps.length+1) c t (by unfold maxLen;omega)
  have aG:(ps.length+1)*B≤140737488355328:=Bh (CM (show ps.length+1≤1001 by omega) hB) (by decide)
  have E:=fun ty=>Lib.run_append_grow_zeros w st 3 ty t i0 z .i64 .i64 hu underlying3 aI aL (some ⟨g,0,none⟩) i c _ T (ps.length+1-i) (by omega) (by omega) (by omega) (by omega) (by rw [aE];exact Bh (CM (show ps.length+1-i≤1001 by omega) hB) (by decide)) (by rw [aE,show i+(ps.length+1-i)=ps.length+1 by omega];exact growslice_fits L aG)
  rw [show i+(ps.length+1-i)=ps.length+1 by omega,show ((ps.length+1-i:Nat):Int)=(ps.length:Int)+1-(i:Int) by omega] at E
  generalize hG:grownCap w (ps.length+1) c t=G at *;have eG:(ps.length+1)*k≤G*k:=Ct k D;generalize M:w.drew.alloc _=W1 at E
  obtain ⟨R0,C,aJ,aD⟩:∃ R0,Row W1 w.heap.size t R0∧R0.length=G*k∧R0.take (i*k)=ps.flatten.take (i*k):=by
    refine ⟨((ps.flatten.take (i*k)).toArray ++ Builtin.zeroCells z.cells (ps.length+1-i) ++ Builtin.zeroCells z.cells (G-(ps.length+1))).toList,?_,?_,?_⟩
    · rw [← M]
      exact Row.new w.drew t _
    · simp only [DL,Bs,D3,Dw,aM,A,← C0]
      rw [show i+(ps.length+1-i)+(G-(ps.length+1))=G by omega]
    · rw [DL,DL,Cm,DE (Dt A.symm),Bw (Dt A)]
  have e:Bd w W1:=by
    rw [← M];exact (show Bd w w.drew from ⟨rfl,rfl,rfl,Bj _,fun _ _=>rfl⟩).alloc (Bj _) _
  have aK:=hv.below e hv.lt;have aA:=Row.setCells r (i*k) _ _ C (by omega)
  have q:(QaH R0 (i*k) r).length=G*k:=by rw [YS _ _ _ (by omega),aJ]
  have aH:w.grownBy (W1.setCells w.heap.size (i*k) r) (some g):=Qf0 (QcU e) (Bj _) (Jb _ _ _ _);have aB:=(b.below e b.lt).grown (Jb w.heap.size r (i*k) W1) (by have:=b.lt;simp;omega)
  have S:(ps.flatten.drop (i*k)).length=ps.length*k-i*k:=by rw [Dh,O]
  refine ⟨G,W1,_,_,D,E,fun dc=>Qos hF C aK (m:=1) (by rw [I,C1]) (fun j u hj=>by rwa [Bq]) (by omega) Y (by simp only [Nat.min_def];split <;> omega),fun dc sc=>Qos hF aA.drew aB.drew (S.trans e2.symm) (fun j u hj=>?_) (by rw [q,e2];omega) (fun u hu=>QbI d u (Du hu)) (Nat.min_self _),
    Qf0 (ZU aH) (Bj _) (Jb _ _ _ _),Qf.of_row (QlI d ⟨I,Y⟩) (by have:=b.lt;omega) (Row.setCells _ _ _ _ aA.drew (by rw [q];omega)) (by rw [Qf4 _ _ _ (by omega)]) D aF (by rw [YS _ _ _ (by rw [q];omega),q]) ?_⟩
  · rw [Cp] at hj
    exact Zz aC _ u hj
  · rw [QbM _ _ _ (by rw [q];omega) _ (by omega),QbM _ _ _ (by omega) _ (by omega),S,I,aD,show (i+1)*k-(i*k+k)=0 by omega,show (ps.length+1)*k-((i+1)*k+(ps.length*k-i*k))=0 by omega,CL,CL,CZ,CZ,Qjk (fun r hr=>(d r hr).1)]
theorem Qsz: QcF 31 76 4:=Qdv (z:=.agg #[Bb 0,Bb 0,Bc,Bc]) (B:=64) underlying76 (by kernel_rfl) rfl (by decide) (by decide)
def OvC (fo:FuncId) (t:TypeId) (k:Nat):Prop:=∀ (w:World) (vb g x lb cb c:Nat) (r cs:List Value),vb≠g→Row w vb t r→r.length=k→Row w g t cs→cs.length=c*k→0<c →
  (callFunc fo #[.slice (some ⟨vb,0,none⟩) 1 1,.slice (some ⟨g,x,none⟩) lb cb]).run prog w=.ok (.value (.bool false)) w
theorem Qse: OvC 219 31 4∧OvC 197 90 3∧True:=by
  refine ⟨?_,?_,trivial⟩
  all_goals
    intro w vb g x lb cb c r cs b hv hr hg hc h0
    first
      | (rw [Ee func219 (by kernel_rfl) (by kernel_rfl) (by kernel_rfl) (e:=Extern.SlicesOverlaps.overlaps #[76,76] #[4]) (by kernel_rfl)]
         rw [Lib.run_overlaps_apart w 76 4 31 underlying76 4 (fun w=>by kernel_rfl) ⟨vb,0,none⟩ ⟨g,x,none⟩ 1 1 lb cb b 31 31 4 (c*4) (by simp [World.shape?,show w.heap[vb]?=_ from hv,hr]) (by simp [World.shape?,show w.heap[g]?=_ from hg,hc]) (by omega) (hv.frozen 0) (hv.frozen 4)])
      | (rw [Ee func197 (by kernel_rfl) (by kernel_rfl) (by kernel_rfl) (e:=Extern.SlicesOverlaps.overlaps #[25,25] #[4]) (by kernel_rfl)]
         rw [Lib.run_overlaps_apart w 25 4 90 underlying25 3 (fun w=>by kernel_rfl) ⟨vb,0,none⟩ ⟨g,x,none⟩ 1 1 lb cb b 90 90 3 (c*3) (by simp [World.shape?,show w.heap[vb]?=_ from hv,hr]) (by simp [World.shape?,show w.heap[g]?=_ from hg,hc]) (by omega) (hv.frozen 0) (hv.frozen 3)])
    rfl
def Qvm (f fo:FuncId) (st t:TypeId) (k:Nat):Prop:=QcF t st k→OvC fo t k→∀ (ps:List (List Value)) (i:Nat) (r:List Value) (base vb:Nat) (v:Value) (w:World),Qf t k w base v ps→base≤w.heap.size→Row w vb t r→okR k [r]→(∀ g,v.ownBlock=some g→vb≠g)→i≤ps.length→ps.length≤1000 →
  Calls prog f #[v,Bb (i:Int),.slice (some ⟨vb,0,none⟩) 1 1] w fun e w'=>w.grownBy w' v.ownBlock∧∃ v',e=.returned v'∧Qf t k w' base v' (QcW ps i r)∧∀ b,v'.ownBlock=some b→v.ownBlock=some b∨w.heap.size≤b
theorem QoA: Qvm 187 219 76 31 4∧Qvm 154 197 25 90 3∧True:=by
  refine ⟨?_,?_,trivial⟩
  all_goals
    intro hF hO ps i r base vb v w h hb hv h1 D hi hl
    by_cases he:i=ps.length
    · subst he
      obtain ⟨oa,c,rfl,hc⟩:=h.shape;have HO:=hid h;have HV:=hid hv;have H1:=hid h1;have HE:=hid (show QcW ps ps.length r=ps ++ [r] by simp [QcW])
      clear h hv h1 hO;generalize hn:ps.length=n at *;have HN:=hid hn;clear hn
      cases oa
      all_goals
        go_in
        go_wp2_with (at_builtin;refine ZJ hF rfl _ _ rfl base _ ps rfl HO.out _ _ r rfl (QgB HV.out) H1.out (by rw [HN.out];omega) hb ?_;intro gg da w' g1 g2 g3 g4;have G1:=hid g1;have G3:=hid g3;have G4:=hid g4;clear g1 g2 g3 g4)
        all_goals
          go_ret;exact ⟨G3.out,_,rfl,by rw [HE.out];exact G1.out,fun b e=>by obtain rfl:gg=b:=(by simpa [Value.ownBlock] using e);exact G4.out.imp id fun h=>by omega⟩
    · obtain ⟨g,c,cs,rfl,m,d,O,C,A,E⟩:=h.row (by omega)
      by_cases I:ps.length+1≤c
      · obtain ⟨W1,W2,q,z,hg,hR⟩:=QpH (i:=i) hF m d A C E h.1 hv h1 (D g rfl) (by omega) I
        have S:=fun x lb cb=>hO w vb g x lb cb c r cs (D g rfl) hv (h1 r (BR.2 rfl)).1 d A (by omega)
        have j:=hid (And.intro hg hR);have hc63:c≤9223372036854775807:=by unfold maxLen at C;omega
        clear hg hR A E d hv h1 h hO hF C D;generalize ps.length=n at *;have T:IntKind.i64.wrap ((i:Int)+1)=(i:Int)+1:=by rw [Ce];omega
        have b1:(0:Int)≤(i:Int)+1:=by omega
        have b3:¬ (c=i+1):=by omega
        have b4:(i:Int)≤(n:Int)+1:=by omega
        have b5:¬ (c=i):=by omega
        have L:(i:Int)≤(n:Int):=by omega
        go_in
        go_wp2_with (simp only [S])
        go_region_law (refine QdU rfl (.tmp 73) (.tmp 76) _ _ rfl _ _ (by simp [Act.eval,Act.put];rfl) (by simp [Act.eval,Act.put];rfl) (q _ _ _) ?_)
        go_wp2_with (at_builtin;refine Qcw _ rfl (.tmp 80) (.tmp 81) _ _ rfl _ _ rfl rfl (z _ _) ?_)
        go_ret;exact ⟨j.out.1,_,rfl,j.out.2,fun b e=>.inl (by simpa [Value.ownBlock] using e)⟩
      · obtain ⟨G,W1,W2,W3,hGn,M,q,z,hg,hR⟩:=QrF (i:=i) hF m d E h.1 hv h1 (by omega) O (by omega) hl
        have j:=hid (And.intro hg hR);clear hg hR A E d hv h1 h hO hF C D;generalize ps.length=n at *;have T:IntKind.i64.wrap ((i:Int)+1)=(i:Int)+1:=by rw [Ce];omega
        have b1:(0:Int)≤(i:Int)+1:=by omega
        have b3:¬ (G=i+1):=by omega
        have b5:¬ (c=i):=by omega
        have L:(i:Int)≤(n:Int):=by omega
        go_in
        go_wp2_with (first | (at_builtin;refine Eo _ rfl (.tmp 34) (.tmp 39) _ _ rfl _ _ rfl rfl _ _ (M _) ?_) | (at_builtin;refine Qcw _ rfl (.tmp 43) (.tmp 44) _ _ rfl _ _ rfl rfl (q _ _) ?_))
        go_region_law (refine QdU rfl (.tmp 50) (.tmp 53) _ _ rfl _ _ (by simp [Act.eval,Act.put];rfl) (by simp [Act.eval,Act.put];rfl) (z _ _ _) ?_)
        go_wp2;go_ret;exact ⟨j.out.1,_,rfl,j.out.2,fun b e=>.inr (by obtain rfl:w.heap.size=b:=(by simpa [Value.ownBlock] using e);exact Bj _)⟩
theorem QmH (z:Array Value):(Builtin.zeroCells z (0+1)).toList=z.toList:=by
  apply CP;intro j
  by_cases h:j<z.size
  · simp [Builtin.zeroCells,h,Nat.mod_eq_of_lt h]
  · simp [Builtin.zeroCells,h]
theorem QtL (hF:QcF t st k) (aB:∀ z,(∃ i,prog.info? t=some i∧i.zero=some z)→∀ u∈z.cells.toList,u.oneCell'=true) {ps:List (List Value)} {base:Nat} (h:Qf t k w base v ps) (hi:i<ps.length) :
    ∃ g c i0 A d W1 W2,v=.slice (some ⟨g,0,none⟩) ps.length c∧ps.length≤c∧c≤maxLen∧prog.info? t=some i0∧i0.size=k∧(if c=i+1 then some (⟨g,0,none⟩:Addr) else some ⟨g,(i+1)*k,none⟩)=some A∧Hid (d.length=(ps.length-(i+1))*k∧(∀ j u,d[j]?=some u→w.drew.cell? (A.add j)=some u)∧(∀ u∈d,u.oneCell'=true)∧(∀ j,j<d.length→(w.drew.cell? ⟨g,0+i*k+j,none⟩).isSome=true∧w.drew.frozen? ⟨g,0+i*k+j,none⟩=false)∧w.drew.setCells g (0+i*k) d=W1) ∧
      (∀ m ty,m=ps.length-1→(Builtin.clear_ #[st] ty #[.slice (some ⟨g,m*k,none⟩) (ps.length-m) (c-m)]).run prog W1=.ok (.tuple #[]) W2)∧Hid (w.grownBy W2 (some g)∧Qf t k W2 base (.slice (some ⟨g,0,none⟩) (ps.length-1) c) (ps.take i ++ ps.drop (i+1))):=by
  obtain ⟨hu,i0,z,B,E,aA,aE,hzb,M,hk0,hB⟩:=id hF;have b:okR k ps:=h.1;obtain ⟨g,c,cs,rfl,D,e,T,O,aC,Y⟩:=h.row (by omega)
  have aD:=aB z ⟨i0,E,aA⟩;have e1:(i+1)*k=i*k+k:=BO i k;have e2:(ps.length-(i+1))*k=ps.length*k-(i+1)*k:=Nat.sub_mul ..;have e3:(i+1)*k≤ps.length*k:=Ct k hi;have e4:ps.length*k≤c*k:=Ct k T;have e5:(ps.length-1)*k=ps.length*k-k:=by rw [Nat.sub_mul,C1]
  have G:(ps.drop (i+1)).flatten.length=(ps.length-(i+1))*k:=by rw [YD _ (fun r hr=>(b r (Du hr)).1),Dh]
  have I:=Row.setCells (ps.drop (i+1)).flatten (i*k) _ _ e.drew (by omega)
  have C:(QaH cs (i*k) (ps.drop (i+1)).flatten).length=c*k:=by rw [YS _ _ _ (by omega),aC]
  have L:=run_storeCells_cells (P:=prog) g ((ps.length-1)*k) z.cells.toList 0 (w.drew.setCells g (i*k) (ps.drop (i+1)).flatten) (fun j hj=>by
    rw [I.cell,Bk (by rw [C];have:j<k:=M ▸ hj;omega)]
    rfl) (fun j hj=>I.frozen _) aD
  have S:∀ j u,(ps.drop (i+1)).flatten[j]?=some u→cs[(i+1)*k+j]?=some u:=fun j u hu=>by
    rw [Qb4 ps (fun r hr=>(b r hr).1),Cp] at hu
    exact Zz Y _ u hu
  refine ⟨g,c,i0,if c=i+1 then ⟨g,0,none⟩ else ⟨g,(i+1)*k,none⟩,(ps.drop (i+1)).flatten,_,(w.drew.setCells g (i*k) (ps.drop (i+1)).flatten).setCells g ((ps.length-1)*k) z.cells.toList,rfl,T,O,E,aE,by split <;> rfl,hid ⟨G,fun j u hu=>?_,QbI fun q hq=>b q (Du hq),fun j hj=>?_,rfl⟩,fun m ty hm=>?_,hid ⟨?_,?_⟩⟩
  · split
    · have:(ps.drop (i+1)).flatten.length=0:=by rw [G,show ps.length-(i+1)=0 by omega,CR]
      rw [CE.1 this] at hu;simp at hu
    · rw [QqU,e.drew.cell]
      exact S j u hu
  · rw [e.drew.cell]
    refine ⟨?_,e.drew.frozen _⟩;rw [Bk (by omega)]
    rfl
  · subst hm
    simp only [BM] at L;rw [show ps.length-(ps.length-1)=0+1 by omega,Bq]
    have aF:(zeroValue t).run prog (w.drew.setCells g (i*k) (ps.drop (i+1)).flatten)=.ok z (w.drew.setCells g (i*k) (ps.drop (i+1)).flatten):=by
      simp [zeroValue,typeInfo,E,aA]
    rw [← QmH z.cells] at L;simp [Builtin.clear_,run_underlying hu,aF,L];simp only [QmH]
  · exact Qo (Qo (⟨rfl,rfl,rfl,Bj _,fun _ _ _=>rfl⟩:w.grownBy w.drew _) (Jb g _ _ w.drew)) (Jb g _ _ _)
  · refine Qf.of_row (fun r hr=>(By.1 hr).elim (fun hr=>b r (DM hr)) fun hr=>b r (Du hr)) D (Row.setCells _ _ _ _ I (by rw [C];simp [M];omega)) (by simp;omega) (by omega) O (by rw [YS _ _ _ (by rw [C];simp [M];omega),C]) ?_
    rw [Qe1 _ _ _ (by rw [C];omega) _ (by omega),QbM cs (i*k) _ (by omega) _ (by omega),G,show (ps.length-1)*k-(i*k+(ps.length-(i+1))*k)=0 by omega,CL,CZ,CX,Qb5 ps (fun r hr=>(b r hr).1),← Y,List.take_take,DJ (by omega)]
def Qvk (f:FuncId) (st t:TypeId) (k:Nat):Prop:=QcF t st k→(∀ z,(∃ i,prog.info? t=some i∧i.zero=some z)→∀ u∈z.cells.toList,u.oneCell'=true)→∀ (ps:List (List Value)) (i base:Nat) (v:Value) (w:World),Qf t k w base v ps→i<ps.length→∀ j:Nat,j=i+1 →
  Calls prog f #[v,Bb (i:Int),Bb (j:Int)] w fun e w'=>w.grownBy w' v.ownBlock∧∃ v',e=.returned v'∧Qf t k w' base v' (ps.take i ++ ps.drop (i+1))∧v'.ownBlock=v.ownBlock
theorem Qou: Qvk 188 76 31 4∧Qvk 169 25 90 3∧True:=by
  refine ⟨?_,?_,trivial⟩
  all_goals
    intro hF hz ps i base v w h hi j hj;obtain ⟨g,c,i0,A,q,W1,W2,rfl,hnc,e,C,E,hA,HN,b,d⟩:=QtL hF hz h hi;rw [← hj] at hA HN;have hc63:c≤9223372036854775807:=by unfold maxLen at e;omega
    have D:=hF.1;have HC:=hid b;clear h e hF hz b;generalize ps.length=n at *;have f1:i≤c:=by omega
    have f2:j≤c:=by omega
    have f3:(i:Int)≤(n:Int):=by omega
    have f4:((j:Nat):Int)≤(n:Int):=by omega
    have f5:(i:Int)≤((j:Nat):Int):=by omega
    have f7:¬ ((i:Int)=((j:Nat):Int)):=by omega
    obtain ⟨m,hm⟩:∃ m,i+(n-j)=m:=⟨_,rfl⟩;have f8:(m:Int)≤(n:Int):=by omega
    have f9:¬ c=m:=by omega
    have f11:(n:Int)≤(c:Int):=by omega
    have b:=fun ty=>HC.out m ty (by omega)
    have HM:=hid hm;have z:=hid (show n-1=m by omega)
    clear hj
    go_in
    go_wp2_with fail
    go_region_law (refine step_append_room rfl (.tmp 22) (.tmp 25) _ rfl _ i0 _ D C E g 0 i c (by simp [Act.eval,Act.put]) A (n-j) (c-j) q (by simp [Act.eval,Act.put]) HN.out.1 HN.out.2.1 HN.out.2.2.1 (by omega) HN.out.2.2.2.1 ?_;rw [HN.out.2.2.2.2])
    go_wp2;go_ret;rw [z.out] at d;exact ⟨d.out.1,_,rfl,d.out.2,rfl⟩
theorem Qo0 {z0:Value} (h:(prog.info? t).map (·.zero)=some (some z0)) (h1:∀ u∈z0.cells.toList,u.oneCell'=true):∀ z,(∃ i,prog.info? t=some i∧i.zero=some z)→∀ u∈z.cells.toList,u.oneCell'=true:=by
  rintro z ⟨i,h2,h3⟩;rw [h2] at h;obtain rfl:z=z0:=by simpa [h3] using h
  exact h1
theorem Qf.made (w:World) (base:Nat) (hb:base≤w.heap.size):Qf t k (w.alloc (.cells #[] t)) base (.slice (some ⟨w.heap.size,0,none⟩) 0 0) [] :=
  ⟨fun _ h=>(by cases h),by
    have:=World.ownsRow_made (e:=t) (size:=k) w #[] 0 hb (by omega) (by simp)
    simpa using this⟩
theorem QjH {c:Nat} (h:Q9 w N (.slice none n c) k rs):rs=[]∧n=0∧c=0:=by grind [Q9]
def QgF (f:FuncId) (st t:TypeId) (k:Nat):Prop:=QcF t st k→∀ (rs:List (List Value)) (v:Value) (N:Nat) (w:World),Q9 w N v k rs→N≤w.heap.size→okR k rs→rs.length≤1000 →
  Calls prog f #[v] w fun e w'=>Bd w w'∧∃ v',e=.returned v'∧Qf t k w' w.heap.size v' rs
theorem QbF: QgF 66 22 78 4∧QgF 68 23 82 4∧QgF 69 24 86 7∧QgF 101 25 90 3∧QgF 70 26 70 3:=by
  refine ⟨?_,?_,?_,?_,?_⟩
  all_goals
    intro hF rs v N w h hN b hl;have q:=fun (w:World) (a:Option Addr) (n c n' c':Nat)=>Lib.run_eql_slice_nil w _ _ a n c n' c' hF.1
    obtain ⟨oa,ca,rfl,hca⟩:=h.shape
    cases oa with
    | none =>
      obtain ⟨rfl,-,rfl⟩:=QjH h
      go_in
      go_wp2;go_ret;exact ⟨Bi _ _,_,rfl,fun _ h=>(by cases h),Db _ _ _ _⟩
    | some a =>
      have d:=b;have HS:=hid h;generalize hn:rs.length=n at *;have HN:=hid hn;clear h b hn
      go_in
      go_wp2_with (at_builtin;refine Qdj hF rfl _ _ rfl w.heap.size _ [] rfl (Qf.made w _ (Bj _)) _ rs rfl (HS.out.below (((Bi _ _).alloc (Bj _) _).mono hN)) d (by rw [HN.out];simp;omega) (by simp) ?_)
      intro v' w2 e z hg2;have m:=hid e;have j:=hid (((Bi w.heap.size w).alloc (Bj _) _).trans z);go_wp2;go_ret;exact ⟨j.out,v',rfl,by simpa using m.out⟩
theorem Qsx: QcF 78 22 4:=Qdv (z:=.agg #[.string ⟨#[]⟩,Bb 0,.bool false,Bc]) (B:=56) underlying22 (by kernel_rfl) rfl (by decide) (by decide)
theorem Qsy: QcF 82 23 4:=Qdv (z:=.agg #[Bb 0,Bb 0,Bb 0,Bb 0]) (B:=32) underlying23 (by kernel_rfl) rfl (by decide) (by decide)
theorem Qsw: QcF 86 24 7:=Qdv (z:=.agg #[Bb 0,.bool false,Bb 0,Bb 0,Bb 0,Bb 0,Bb 0]) (B:=56) underlying24 (by kernel_rfl) rfl (by decide) (by decide)
theorem QsA: QcF 70 26 3:=Qdv (z:=.agg #[.string ⟨#[]⟩,.string ⟨#[]⟩,.int .u64 0]) (B:=40) underlying26 (by kernel_rfl) rfl (by decide) (by decide)
theorem Row.k3 (h:Row w g t [v,v4,v5]):w.cell? ⟨g,0,none⟩=some v∧w.cell? ⟨g,1,none⟩=some v4∧w.cell? ⟨g,2,none⟩=some v5 :=
  ⟨h.cell 0,h.cell 1,h.cell 2⟩
theorem Row.k4 (h:Row w g t [v,v4,v5,v6]):w.cell? ⟨g,0,none⟩=some v∧w.cell? ⟨g,1,none⟩=some v4∧w.cell? ⟨g,2,none⟩=some v5∧w.cell? ⟨g,3,none⟩=some v6 :=
  ⟨h.cell 0,h.cell 1,h.cell 2,h.cell 3⟩
theorem Row.k5 (h:Row w g t [v,v4,v5,v6,v2]):w.cell? ⟨g,0,none⟩=some v∧w.cell? ⟨g,1,none⟩=some v4∧w.cell? ⟨g,2,none⟩=some v5∧w.cell? ⟨g,3,none⟩=some v6∧w.cell? ⟨g,4,none⟩=some v2 :=
  ⟨h.cell 0,h.cell 1,h.cell 2,h.cell 3,h.cell 4⟩
theorem Row.k6 (h:Row w g t [v,v4,v5,v6,v2,v3]):w.cell? ⟨g,0,none⟩=some v∧w.cell? ⟨g,1,none⟩=some v4∧w.cell? ⟨g,2,none⟩=some v5∧w.cell? ⟨g,3,none⟩=some v6∧w.cell? ⟨g,4,none⟩=some v2∧w.cell? ⟨g,5,none⟩=some v3 :=
  ⟨h.cell 0,h.cell 1,h.cell 2,h.cell 3,h.cell 4,h.cell 5⟩
theorem Row.k7 (h:Row w g t [v,v4,v5,v6,v2,v3,v7]):w.cell? ⟨g,0,none⟩=some v∧w.cell? ⟨g,1,none⟩=some v4∧w.cell? ⟨g,2,none⟩=some v5∧w.cell? ⟨g,3,none⟩=some v6∧w.cell? ⟨g,4,none⟩=some v2∧w.cell? ⟨g,5,none⟩=some v3∧w.cell? ⟨g,6,none⟩=some v7 :=
  ⟨h.cell 0,h.cell 1,h.cell 2,h.cell 3,h.cell 4,h.cell 5,h.cell 6⟩
theorem Row.k10 (h:Row w g t [v,v4,v5,v6,v2,v3,v7,v1,sv,c0]):w.cell? ⟨g,0,none⟩=some v∧w.cell? ⟨g,1,none⟩=some v4∧w.cell? ⟨g,2,none⟩=some v5∧w.cell? ⟨g,3,none⟩=some v6∧w.cell? ⟨g,4,none⟩=some v2∧w.cell? ⟨g,5,none⟩=some v3∧w.cell? ⟨g,6,none⟩=some v7∧w.cell? ⟨g,7,none⟩=some v1∧w.cell? ⟨g,8,none⟩=some sv∧w.cell? ⟨g,9,none⟩=some c0 :=
  ⟨h.cell 0,h.cell 1,h.cell 2,h.cell 3,h.cell 4,h.cell 5,h.cell 6,h.cell 7,h.cell 8,h.cell 9⟩
abbrev Bx:=Nat×TypeId×List Value
variable {a0 a1 a2:Bx}
structure FrB (B:Nat) (w:World) (l:List Bx) (w':World):Prop where
  b:Below B w w'
  rows:∀ r∈l,Row w' r.1 r.2.1 r.2.2
  own:∀ r∈l,B≤r.1
  apart:l.Pairwise (fun a b=>a.1≠b.1)
  z:B≤w.heap.size
abbrev Fr (w:World) (l:List Bx) (w':World):Prop:=FrB w.heap.size w l w'
theorem FrB.sz {l:List Bx} (F:FrB B w l w'):B≤w'.heap.size:=Bh F.z F.b.size
theorem FrB.nil (w:World):Fr w [] w:=⟨Bi _ _,fun _ h=>absurd h BL,fun _ h=>absurd h BL,List.Pairwise.nil,Bj _⟩
theorem FrB.go {w2:World} {l:List Bx} (F:FrB B w l w1) (h:Bd w1 w2):FrB B w l w2 :=
  ⟨F.b.trans (h.mono F.sz),fun r hr=>(F.rows r hr).below h (F.rows r hr).lt,F.own,F.apart,F.z⟩
theorem FrB.addAt {l:List Bx} (F:FrB B w l w1) (hg:g=w1.heap.size):FrB B w (l ++ [(g,t,cs)]) (w1.alloc (.cells cs.toArray t)):=by
  subst hg;have d:∀ r∈l,r.1<w1.heap.size:=fun r hr=>(F.rows r hr).lt
  refine ⟨F.b.alloc F.sz _,fun r hr=>?_,fun r hr=>?_,?_,F.z⟩
  · rcases By.1 hr with h | h
    · exact (F.rows r h).alloc _
    · obtain rfl:r=_:=BR.1 h
      exact Row.new _ _ _
  · rcases By.1 hr with h | h
    · exact F.own r h
    · obtain rfl:r=_:=BR.1 h
      exact F.sz
  · refine D4.2 ⟨F.apart,Ep _ _,fun a ha b hb=>?_⟩
    obtain rfl:b=_:=BR.1 hb;exact Nat.ne_of_lt (d a ha)
theorem FrB.box {c:Code} {l:List Bx} (F:FrB B w l w1) (h:∀ w2,FrB B w (l ++ [(w1.heap.size,t,cs)]) w2→w1.heap.size+1≤w2.heap.size→Bd w1 w2→c.wp P Q a w2):c.wp P Q a (w1.alloc (.cells cs.toArray t)) :=
  h _ (F.addAt rfl) (by simp) ((Bi _ _).alloc (by omega) _)
theorem QkH {l:List Bx} (h:l.Pairwise (fun a b=>a.1≠b.1)) {j:Nat} {x:Bx} (hi:l[i]?=some x) (hj:l[j]?=some a0) (hne:i≠j):x.1≠a0.1:=by grind [List.pairwise_iff_getElem]
theorem FrB.turn {w2:World} {l:List Bx} {b:List Value} (F:FrB B w l w1) (hi:l[i]?=some (g,t,cs)) (hr:Row w2 g t b) (hb:Below B w w2) (hk:∀ k,k≠g→k<w1.heap.size→w2.heap[k]?=w1.heap[k]?):FrB B w (l.set i (g,t,b)) w2:=by
  have A:=(Bm.1 hi).1
  have m:∀ r∈l.set i (g,t,b),r=(g,t,b)∨∃ j,j≠i∧l[j]?=some r:=by
    intro r hr;obtain ⟨j,hj⟩:=Di hr;rw [Eg] at hj
    split at hj
    · first | rw [if_pos A] at hj | skip
      exact .inl (Bu hj).symm
    · rename_i d
      exact .inr ⟨j,fun e=>d e.symm,hj⟩
  refine ⟨hb,fun r q=>?_,fun r q=>?_,?_,F.z⟩
  · rcases m r q with rfl | ⟨j,d,hj⟩
    · exact hr
    · have h:=F.rows r (Bn hj)
      exact (hk _ (QkH F.apart hj hi d) h.lt).trans h
  · rcases m r q with rfl | ⟨j,d,hj⟩
    · exact F.own (g,t,cs) (Bn hi)
    · exact F.own r (Bn hj)
  · have he:(l.set i (g,t,b)).map (·.1)=l.map (·.1):=by
      rw [De];apply CP;intro k;rw [Eg]
      split
      · rename_i e
        subst e;rw [Bt,hi,Bp,if_pos A];rfl
      · rfl
    have h2:(l.map (·.1)).Pairwise (·≠·):=List.pairwise_map.2 F.apart
    rw [← he] at h2;exact List.pairwise_map.1 h2
structure JG (g:Nat) (w1 w2:World):Prop where
  below:Below 0 w1 w2
  same:∀ k,k≠g→w2.heap[k]?=w1.heap[k]?
  size:w2.heap.size=w1.heap.size
theorem JG.refl (g:Nat) (w:World):JG g w w:=⟨Bi _ _,fun _ _=>rfl,rfl⟩
theorem JG.cell {w2:World} (h:JG g w1 w2) (j:Nat) (v:Value):JG g w1 (w2.setCell ⟨g,j,none⟩ v) :=
  ⟨h.below.trans ((Bi 0 _).setCell (by omega) _),fun k hk=>(DN _ _ _ _ hk).trans (h.same k hk),by rw [← h.size];simp⟩
theorem JG.down {w2:World} (h:JG g w1 w2) (hb:Below B w w1) (hg:B≤g):Below B w w2 :=
  hb.trans ⟨h.below.os,h.below.tape,h.below.output,h.below.size,fun k hk=>h.same k (by omega)⟩
theorem FrB.only {w2:World} {l:List Bx} {d:List Value} (F:FrB B w l w1) (hi:l[i]?=some (g,t,cs)) (hr:Row w2 g t d) (O:JG g w1 w2):FrB B w (l.set i (g,t,d)) w2 :=
  F.turn hi hr (O.down F.b (F.own _ (Bn hi))) fun k hk _=>O.same k hk
theorem FrB.set1 {l:List Bx} (F:FrB B w l w1) (i j:Nat) (v:Value) (hi:l[i]?=some (g,t,cs)):FrB B w (l.set i (g,t,cs.set j v)) (w1.setCell ⟨g,j,none⟩ v) :=
  F.only hi ((F.rows _ (Bn hi)).set j v) ((JG.refl _ _).cell j v)
theorem FrB.named {c:Code} {w2:World} {l:List Bx} (F:FrB B w l w2) (O:JG g w1 w2) (h:∀ w3,FrB B w l w3→JG g w1 w3→c.wp P Q a w3):c.wp P Q a w2:=h _ F O
theorem FrB.cell {c:Code} {l:List Bx} {j:Nat} (F:FrB B w l w1) (i:Nat) (hi:l[i]?=some (g,t,cs)) (h:∀ w2,FrB B w (l.set i (g,t,cs.set j v)) w2→JG g w1 w2→c.wp P Q a w2):c.wp P Q a (w1.setCell ⟨g,j,none⟩ v) :=
  h _ (F.set1 i j v hi) ((JG.refl _ _).cell j v)
theorem FrB.lts {l:List Bx} (F:FrB B w l w1):∀ g∈l.map (·.1),g<w1.heap.size:=fun g hg=>by
  obtain ⟨r,hr,rfl⟩:=BG.1 hg;exact (F.rows r hr).lt
theorem FrB.past {C:Nat} {w2:World} {l:List Bx} (F:FrB B w l w1) (h:Below C w1 w2) (hB:B≤C) (hl:∀ g∈l.map (·.1),g<C):FrB B w l w2 :=
  ⟨F.b.trans (h.mono hB),fun r hr=>(F.rows r hr).below h (hl _ (BG.2 ⟨r,hr,rfl⟩)),F.own,F.apart,F.z⟩
theorem FrB.grow {w2:World} {l:List Bx} {r:Option Nat} (F:FrB B w l w1) (h:w1.grownBy w2 r) (hr:∀ k,r=some k→B≤k) (hl:∀ g∈l.map (·.1),some g≠r):FrB B w l w2 :=
  ⟨F.b.grown h F.sz hr,fun q hq=>(F.rows q hq).grown h (hl _ (BG.2 ⟨q,hq,rfl⟩)),F.own,F.apart,F.z⟩
theorem FrB.low {C:Nat} {l:List Bx} (F:FrB B w l w1) (h:C≤B):FrB C w l w1:=⟨F.b.mono h,F.rows,fun r hr=>Bh h (F.own r hr),F.apart,Bh h F.z⟩
theorem Row.only (h:Row w g t cs) (O:JG N w w') (b:g≠N):Row w' g t cs:=(O.same g b).trans h
theorem Qac {c:Code} {w2:World} (h:w1=w2) (hw:c.wp P Q a w2):c.wp P Q a w1:=h ▸ hw
theorem QuT {b:Array Oper} {rest:List Oper} (h:∀ w2,Row w2 w1.heap.size t cs→Bd w1 w2→wpList P b Q rest a w2):wpList P b Q rest a (w1.alloc (.cells cs.toArray t)) :=
  h _ (Row.new _ _ _) ((Bi _ _).alloc (by omega) _)
theorem Qgd (w:World) (g:Nat) (cs:Array Value):(w.setRow g cs).heap.size=w.heap.size:=by simp
theorem Qc8 (hb:Below B w' w) (hg:B≤g) (cs:Array Value):Below B w' (w.setRow g cs):=hb.trans ⟨rfl,rfl,rfl,by simp,fun k hk=>BW w g k cs (by omega)⟩
def Qv (t:TypeId) (n:Nat):Prop:=(∃ d,prog.underlying t=some d∧(match d with | .struct _ | .array _ _=>true | _=>false)=true)∧(prog.info? t).map (·.size)=some n
theorem FrB.store {e:Array Oper} {rest:List Oper} {l:List Bx} {b:Array Value} {d:List Value} (F:FrB B w l w1) (i:Nat) (he:(o.guard,o.op,a.eval x,a.eval y,l[i]?,d.length)=(none,.store t x y,.pointer (some ⟨g,0,none⟩),.agg b,some (g,t,d),b.size))
    (hs:Qv t d.length) (h1:b.all (·.oneCell')=true) (h:∀ w2,FrB B w (l.set i (g,t,b.toList)) w2→JG g w1 w2→wpList prog e Q rest (a.put o.dst undef) w2):wpList prog e Q (o :: rest) a w1:=by
  injection he with hgd he
  injection he with ho he
  injection he with hx he
  injection he with hy he
  injection he with hi hn
  have hm:=Bn hi;have hr:Row w1 g t d:=F.rows _ hm;have O:JG g w1 (w1.setRow g b):=⟨Qc8 (Bi 0 w1) (by omega) _,fun k hk=>BW _ _ _ _ hk,Qgd _ _ _⟩
  refine Dc hgd t x y ho g b hx hy t d.toArray hr (by rw [hs.2,hn]) (by simpa using hn) h1 (h _ (F.only hi ?_ O) O)
  have:=Co w1 g d.toArray b t (0,0) hr;unfold Row;simpa using this
theorem Qu8 {e:Array Oper} {rest:List Oper} {b:Array Value} {d:List Value} (he:(o.guard,o.op,a.eval x,a.eval y,d.length)=(none,.store t x y,.pointer (some ⟨w1.heap.size,0,none⟩),.agg b,b.size))
    (hs:Qv t d.length) (h1:b.all (·.oneCell')=true) (h:∀ w3,Row w3 w1.heap.size t b.toList→Bd w1 w3→wpList prog e Q rest (a.put o.dst undef) w3):wpList prog e Q (o :: rest) a (w1.alloc (.cells d.toArray t)):=by
  injection he with hgd he
  injection he with ho he
  injection he with hx he
  injection he with hy hn
  have hr:=Row.new w1 t d;refine Dc hgd t x y ho w1.heap.size b hx hy t d.toArray hr (by rw [hs.2,hn]) (by simpa using hn) h1 (h _ ?_ (Qc8 ((Bi _ _).alloc (Bj _) _) (Bj _) _))
  have:=Co _ w1.heap.size d.toArray b t (0,0) hr;unfold Row;simpa using this
theorem FrB.storeNew {m:Array Oper} {rest:List Oper} {l:List Bx} {d:Array Value} {j:List Value} (F:FrB B w l w1) (he:(o.guard,o.op,a.eval x,a.eval y,j.length)=(none,.store t x y,.pointer (some ⟨w1.heap.size,0,none⟩),.agg d,d.size))
    (hs:Qv t j.length) (h1:d.all (·.oneCell')=true) (h:∀ w3,FrB B w (l ++ [(w1.heap.size,t,d.toList)]) w3→Bd w1 w3→wpList prog m Q rest (a.put o.dst undef) w3):wpList prog m Q (o :: rest) a (w1.alloc (.cells j.toArray t)):=by
  refine Qu8 he hs h1 fun w3 hr hb=>h w3 ?_ hb
  have F3:=F.go hb;have q:∀ r∈l,r.1<w1.heap.size:=fun r hr=>(F.rows r hr).lt
  refine ⟨F3.b,fun r e=>?_,fun r e=>?_,?_,F.z⟩
  · rcases By.1 e with h | h
    · exact F3.rows r h
    · obtain rfl:r=_:=BR.1 h
      exact hr
  · rcases By.1 e with h | h
    · exact F.own r h
    · obtain rfl:r=_:=BR.1 h
      exact F.sz
  · refine D4.2 ⟨F.apart,Ep _ _,fun a ha b hb=>?_⟩
    obtain rfl:b=_:=BR.1 hb;exact Nat.ne_of_lt (q a ha)
theorem QbW {b:Array Value} (h:∀ w2,Row w2 w1.heap.size t cs→Bd w1 w2→Calls P f b w2 R):Calls P f b (w1.alloc (.cells cs.toArray t)) R :=
  h _ (Row.new _ _ _) ((Bi _ _).alloc (by omega) _)
theorem JG.row (g:Nat) (w1:World) (cs:Array Value):JG g w1 (w1.setRow g cs):=⟨Qc8 (Bi 0 w1) (by omega) _,fun _ hk=>BW _ _ _ _ hk,Qgd _ _ _⟩
theorem FrB.load {b:Array Oper} {rest:List Oper} {l:List Bx} (F:FrB B w l w1) (i:Nat) (he:(o.guard,o.op,a.eval x,l[i]?)=(none,.load t x,.pointer (some ⟨g,0,none⟩),some (g,t,cs))) (hs:Qv t cs.length)
    (h:wpList prog b Q rest (a.put o.dst (.agg cs.toArray)) w1):wpList prog b Q (o :: rest) a w1:=by
  obtain ⟨⟨d,hu,hd⟩,hz⟩:=hs
  injection he with hgd he
  injection he with ho he
  injection he with hx hi
  exact wpList_load_row hgd t x ho g hx t cs.toArray (0,0) d (F.rows _ (Bn hi)) hu (by cases d <;> first | rfl | cases hd) (by simpa using hz) h
theorem Ys (hr:Row w g t cs) (hs:Qv t cs.length):(loadVar t ⟨g,0,none⟩).run prog w=.ok (.agg cs.toArray) w:=by
  obtain ⟨⟨d,hu,hd⟩,hi⟩:=hs;exact run_loadVar_row w g t t cs.toArray (0,0) d hr hu (by cases d <;> first | rfl | cases hd) (by simpa using hi)
theorem Qe5 {s:Nat} (hf:fn.results=#[.cell s t]) (hs:a.tmps.getD s undef=.pointer (some ⟨g,0,none⟩)) (hr:Row w g t cs) (ht:Qv t cs.length) (hd:a.defers=[]) (hR:R (.returned (.agg cs.toArray)) w):bodyPost prog fn R .ret a w:=by
  have hs':a.tmps[s]?.getD undef=.pointer (some ⟨g,0,none⟩):=by simp_all
  exact BK (by simp [results,hf,hs',asAddr,Ys hr ht]) hd hR
theorem Ql {s u:Nat} (hf:fn.results=#[.cell s t,.tmp u]) (hs:a.tmps.getD s undef=.pointer (some ⟨g,0,none⟩)) (hr:Row w g t cs) (ht:Qv t cs.length) (hd:a.defers=[]) (hR:R (.returned (.tuple #[.agg cs.toArray,a.tmps.getD u undef])) w):bodyPost prog fn R .ret a w:=by
  have hs':a.tmps[s]?.getD undef=.pointer (some ⟨g,0,none⟩):=by simp_all
  exact BK (by simp [results,hf,hs',asAddr,Ys hr ht]) hd hR
theorem J8 {s u v:Nat} (hf:fn.results=#[.cell s t,.tmp u,.tmp v]) (hs:a.tmps.getD s undef=.pointer (some ⟨g,0,none⟩)) (hr:Row w g t cs) (ht:Qv t cs.length) (hd:a.defers=[]) (hR:R (.returned (.tuple #[.agg cs.toArray,a.tmps.getD u undef,a.tmps.getD v undef])) w):bodyPost prog fn R .ret a w:=by
  have hs':a.tmps[s]?.getD undef=.pointer (some ⟨g,0,none⟩):=by simp_all
  exact BK (by simp [results,hf,hs',asAddr,Ys hr ht]) hd hR
theorem FrB.r0  {l:List Bx} (F:FrB B w ((g,t,cs) :: l) w'):Row w' g t cs:=F.rows (g,t,cs) (.head _)
theorem FrB.r1 {l:List Bx} (F:FrB B w (a0 :: (g,t,cs) :: l) w'):Row w' g t cs:=F.rows (g,t,cs) (by simp)
theorem FrB.r2 {l:List Bx} (F:FrB B w (a0 :: a1 :: (g,t,cs) :: l) w'):Row w' g t cs:=F.rows (g,t,cs) (by simp)
theorem FrB.r3 {l:List Bx} (F:FrB B w (a0 :: a1 :: a2 :: (g,t,cs) :: l) w'):Row w' g t cs:=F.rows (g,t,cs) (by simp)
theorem FrB.r4 {a3:Bx} {l:List Bx} (F:FrB B w (a0 :: a1 :: a2 :: a3 :: (g,t,cs) :: l) w'):Row w' g t cs:=F.rows (g,t,cs) (by simp)
theorem FrB.r5 {a3:Bx} {a4:Bx} {l:List Bx} (F:FrB B w (a0 :: a1 :: a2 :: a3 :: a4 :: (g,t,cs) :: l) w'):Row w' g t cs:=F.rows (g,t,cs) (by simp)
theorem JN {c:Code} (h:∀ w0,Fr w [(w.heap.size,t,cs)] w0→w.heap.size+1≤w0.heap.size→c.wp P Q a w0):c.wp P Q a (w.alloc (.cells cs.toArray t)) :=
  h _ ((FrB.nil w).addAt rfl) (by simp)
theorem QcS {c:Code} (h:∀ w0,Fr w [(w.heap.size,t,cs),(w.heap.size+1,ty,xs)] w0→w.heap.size+2≤w0.heap.size→c.wp P Q a w0):c.wp P Q a ((w.alloc (.cells cs.toArray t)).alloc (.cells xs.toArray ty)) :=
  h _ (((FrB.nil w).addAt rfl).addAt (by simp)) (by simp)
theorem JO {c:Code} (h:∀ w0,Fr w [(w.heap.size,t,cs),(w.heap.size+1,ty,xs),(w.heap.size+1+1,st,r)] w0→w.heap.size+3≤w0.heap.size→c.wp P Q a w0):c.wp P Q a (((w.alloc (.cells cs.toArray t)).alloc (.cells xs.toArray ty)).alloc (.cells r.toArray st)) :=
  h _ ((((FrB.nil w).addAt rfl).addAt (by simp)).addAt (by simp)) (by simp)
theorem Qai {c:Code} {c3:List Value} (h:∀ w0,Fr w [(w.heap.size,t,cs),(w.heap.size+1,ty,xs),(w.heap.size+1+1,st,r),(w.heap.size+1+1+1,t',c3)] w0→w.heap.size+4≤w0.heap.size→c.wp P Q a w0):c.wp P Q a ((((w.alloc (.cells cs.toArray t)).alloc (.cells xs.toArray ty)).alloc (.cells r.toArray st)).alloc (.cells c3.toArray t')) :=
  h _ (((((FrB.nil w).addAt rfl).addAt (by simp)).addAt (by simp)).addAt (by simp)) (by simp)
theorem QbJ {e:Array Oper} {rest:List Oper} {op:Oper} {b o:Nat} (hc:w.rangeAt b o cs) (hs:Qv t cs.length) (hw:Region.wanted op (yielded e a.tmps)=true) (ho:op.op=.load t x) (hx:a.eval x=.pointer (some ⟨b,o,none⟩))
    (h:wpList prog e Q rest (a.put op.dst (.agg cs.toArray)) w):wpList prog e Q (op :: rest) a w:=by
  obtain ⟨⟨d,hu,hd⟩,hz⟩:=hs;exact Go.BigFrame.wpList_want hw fun K hK=>wp_load_mid t x ho b o hx cs d hc hu (by cases d <;> first | rfl | cases hd) hz (hK _ _ h)
theorem Row.range (h:Row w g t cs):w.rangeAt g 0 cs:=fun j v hj=>by rw [Bq,h.cell];exact hj
theorem FrB.now {l:List Bx} (F:FrB B w l w'):FrB B w' l w':=⟨Bi _ _,F.rows,F.own,F.apart,F.sz⟩
theorem FrB.take {l:List Bx} (F:FrB B w l w') (n:Nat):FrB B w (l.take n) w':=⟨F.b,fun r hr=>F.rows r (DM hr),fun r hr=>F.own r (DM hr),F.apart.sublist (List.take_sublist n l),F.z⟩
theorem Jo {b:Nat} (ho:o.op=.load ty x) (hx:ev x=.pointer (some ⟨b,i,none⟩)) (hc:W.rangeAt b i cs) (hs:Qv ty cs.length):(execOp ev o).run prog W=.ok (.value (.agg cs.toArray)) W:=by
  obtain ⟨⟨d,hu,hd⟩,hz⟩:=hs;have:=run_loadAt_mid (P:=prog) W b i ty cs d hc hu (by cases d <;> first | rfl | cases hd) hz
  unfold execOp;simp only [ho,hx,Cz,this,CH,CG]
theorem Qa: Qv 28 10:=⟨⟨_,underlying28,rfl⟩,by kernel_rfl⟩
theorem QN: Qv 46 18:=⟨⟨_,underlying46,rfl⟩,by kernel_rfl⟩
theorem Yg: Qv 86 7:=⟨⟨_,underlying86,rfl⟩,by kernel_rfl⟩
theorem YW: Qv 82 4:=⟨⟨_,underlying82,rfl⟩,by kernel_rfl⟩
theorem QsV: Qv 33 6:=⟨⟨_,underlying33,rfl⟩,by kernel_rfl⟩
theorem QsX: Qv 37 8:=⟨⟨_,underlying37,rfl⟩,by kernel_rfl⟩
theorem Qm: Qv 78 4:=⟨⟨_,underlying78,rfl⟩,by kernel_rfl⟩
theorem Y5: Qv 31 4:=⟨⟨_,underlying31,rfl⟩,by kernel_rfl⟩
theorem Zt: Qv 39 10:=⟨⟨_,underlying39,rfl⟩,by kernel_rfl⟩
theorem Qh6: Qv 90 3:=⟨⟨_,underlying90,rfl⟩,by kernel_rfl⟩
theorem Qdb: Qv 70 3:=⟨⟨_,underlying70,rfl⟩,by kernel_rfl⟩
theorem Qqz: Qv 304 2:=⟨⟨_,underlying304,rfl⟩,by kernel_rfl⟩
theorem Q9.at (h:Q9 w N (.slice oa n g) k rs) (hk:∀ r∈rs,r.length=k) (hB:N≤B) (hn:rs.length=n) (hi:i<n) :
    ∃ b o r,oa=some ⟨b,o,none⟩∧rs[i]?=some r∧r.length=k∧∀ W,Below B w W→W.rangeAt b (o+i*k) r:=by
  obtain ⟨b,o,e,hc⟩:=h.spot (by omega)
  have hr:=Bk (show i<rs.length by omega)
  exact ⟨b,o,_,e,hr,hk _ (Bn hr),fun W hb j v hv=>(hb.cell (show b<B from Br (hc i _ hr).1 hB)).trans ((hc i _ hr).2 j v hv)⟩
def Qgt (f:FuncId) (t:TypeId) (k:Nat):Prop:=Qv t k→∀ (Z:Nat→Int) (rs:List (List Value)) (sv tv:Value) (fid:FuncId) (N:Nat) (w:World),(∀ (args:Array Value) (W:World),(callFunc fid args).run prog W=.ok (.enter fid args) W)→N≤w.heap.size→Q9 w N sv k rs→(∀ r∈rs,r.length=k)→rs.length≤1000000 →
  (∀ a b,a≤b→b<rs.length→Z b<0→Z a<0)→(∀ h r W,rs[h]?=some r→Bd w W→Calls prog fid #[.agg r.toArray,tv] W fun e W'=>e=.returned (Bb (Z h))∧Bd W W') →
  Calls prog f #[sv,tv,.func (.func fid) #[] #[]] w fun e w'=>Bd w w'∧∃ i fd,e=.returned (.tuple #[Bb ((i:Nat):Int),.bool fd])∧i≤rs.length∧(∀ j,j<i→Z j<0)∧(∀ j,i≤j→j<rs.length→0≤Z j)∧(fd=true↔i<rs.length∧Z i=0)
theorem QhV: Qgt 183 31 4∧Qgt 265 304 2∧True:=by
  refine ⟨?_,?_,trivial⟩
  all_goals
    intro hS Z rs sv tv fid N w C hN hl hk hlen q A;obtain ⟨oa,ca,rfl,hca⟩:=hl.shape;have HL:=hid hl;have m:=hid C;have HM:=hid q;have HC:=hid A;have HK:=hid hk;clear hl C q A hk;generalize hn:rs.length=n at *;have HN:=hid hn;clear hn;have HR:=hid (fun i (hi:i<n)=>HL.out.at HK.out hN HN.out hi)
    go_in
    go_wp2_with fail
    go_loopw [9,10] (fun s9 I wr=>∃ lo hi:Nat,s9=Bb lo∧I=Bb hi∧lo≤hi∧hi≤n∧Hid (Bd w wr∧(∀ t,t<lo→Z t<0)∧∀ t,hi≤t→t<n→0≤Z t)) (fun s9 I _=>(intOf I).toNat-(intOf s9).toNat)
    case atStart=>exact ⟨0,n,rfl,rfl,BJ _,Bj _,hid ⟨Bi _ _,fun t ht=>absurd ht (Nat.not_lt_zero _),fun t h1 h2=>by omega⟩⟩
    case round =>
      obtain ⟨lo,hi,rfl,rfl,hlh,D,HB⟩:=hrel
      by_cases hlt:lo<hi
      · have M:(lo+hi) / 2<n:=by omega
        have hh1:((lo:Int)+(hi:Int)) / 2=(((lo+hi) / 2:Nat):Int):=by omega
        have hlh2:lo≤(lo+hi) / 2∧(lo+hi) / 2<hi:=by omega
        generalize (lo+hi) / 2=h at *;obtain ⟨b,o,r,rfl,hr,E,hm⟩:=HR.out h M;have HX:=hid (hm _ HB.out.1);have z:=hid (HC.out h r wr hr HB.out.1);have HS:=hid (show Qv _ r.length by rw [E];exact hS)
        have hlt':(lo:Int)<(hi:Int):=by omega
        have HZ:=hid (fun t=>HM.out t h)
        have S:=hid (fun t (h1:h≤t) h2 h3=>HM.out h t h1 h2 h3)
        generalize Z h=cc at *;clear hm hr
        by_cases G:cc<0
        · have hyx':decide (cc<0)=true:=by simpa using G
          go_wp2_with (refine QbJ HX.out HS.out rfl rfl rfl ?_)
          rw [m.out,DO];refine z.out.mono ?_;rintro e w2 ⟨rfl,d⟩;have j:=hid (HB.out.1.trans (d.mono HB.out.1.size));clear d
          go_wp2_with fail
          exact ⟨⟨h+1,hi,by go_num,rfl,by omega,D,hid ⟨j.out,fun t ht=>HZ.out t (by omega) M G,HB.out.2.2⟩⟩,by simp [intOf];omega⟩
        · have hyx':decide (cc<0)=false:=by simpa using G
          go_wp2_with (refine QbJ HX.out HS.out rfl rfl rfl ?_)
          rw [m.out,DO];refine z.out.mono ?_;rintro e w2 ⟨rfl,d⟩;have j:=hid (HB.out.1.trans (d.mono HB.out.1.size));clear d
          go_wp2_with fail
          exact ⟨⟨lo,h,rfl,by go_num,by omega,by omega,hid ⟨j.out,HB.out.2.1,fun t h1 h2=>DP.1 fun h3=>by have:=S.out t h1 h2 h3;omega⟩⟩,by simp [intOf];omega⟩
      · obtain rfl:hi=lo:=by omega
        have hge:decide ((hi:Int)<(hi:Int))=false:=by simp
        by_cases hn:hi<n
        · obtain ⟨b,o,r,rfl,hr,E,hm⟩:=HR.out hi hn
          have HX:=hid (hm _ HB.out.1);have z:=hid (HC.out hi r wr hr HB.out.1);have HS:=hid (show Qv _ r.length by rw [E];exact hS)
          have hlt':(hi:Int)<(n:Int):=by omega
          have L:decide ((hi:Int)<(n:Int))=true:=by simpa using hlt'
          generalize O:Z hi=cc at *;have T:=hid O;clear hm hr O
          go_wp2_with (refine QbJ HX.out HS.out rfl rfl rfl ?_)
          rw [m.out,DO];refine z.out.mono ?_;rintro e w2 ⟨rfl,d⟩;have j:=hid (HB.out.1.trans (d.mono HB.out.1.size));clear d;go_wp2;go_ret2;exact ⟨j.out,hi,_,rfl,D,HB.out.2.1,HB.out.2.2,by rw [T.out];simp [hn]⟩
        · have L:decide ((hi:Int)<(n:Int))=false:=by simp;omega
          go_wp2;go_ret2;exact ⟨HB.out.1,hi,_,rfl,D,HB.out.2.1,HB.out.2.2,by simp [hn]⟩
def AtL {α:Type} (c:α→Int) (l:List α) (i:Nat) (fd:Bool):Prop:=i≤l.length∧(∀ t p,t<i→l[t]?=some p→c p<0)∧(∀ t p,i≤t→l[t]?=some p→0≤c p)∧(fd=true↔∃ p,l[i]?=some p∧c p=0)
def QkC {α:Type} (c:α→Int) (l:List α) (i:Nat):Int:=(l[i]?.map c).getD 0
theorem Qbn {α:Type} {c:α→Int} {l:List α} {i:Nat} {p:α} (h:l[i]?=some p):QkC c l i=c p:=by simp [QkC,h]
theorem QjA {α:Type} {c:α→Int} {l:List α} (hs:l.Pairwise fun a b=>c b<0→c a<0) (a b:Nat) (d:a≤b) (hb:b<l.length) (h:QkC c l b<0):QkC c l a<0:=by
  rcases Nat.lt_or_eq_of_le d with hlt | rfl
  · rw [Qbn (Bk hb)] at h
    rw [Qbn (Bk (DQ hlt hb))];exact Ef.1 hs a b _ hb hlt h
  · exact h
theorem QqX {α:Type} {c:α→Int} {l:List α} {i:Nat} {fd:Bool} (h1:i≤l.length) (h2:∀ j,j<i→QkC c l j<0) (h3:∀ j,i≤j→j<l.length→0≤QkC c l j) (h4:fd=true↔i<l.length∧QkC c l i=0):AtL c l i fd:=by
  refine ⟨h1,fun t p ht hp=>?_,fun t p ht hp=>?_,h4.trans ⟨?_,?_⟩⟩
  · rw [← Qbn (c:=c) hp];exact h2 t ht
  · rw [← Qbn (c:=c) hp];exact h3 t ht (Bm.1 hp).1
  · rintro ⟨h,e⟩;rw [Qbn (Bk h)] at e;exact ⟨_,Bk h,e⟩
  · rintro ⟨p,hp,e⟩;exact ⟨(Bm.1 hp).1,by rw [Qbn hp];exact e⟩
theorem Qgt.list (h:Qgt f t k) (hS:Qv t k) {α:Type} (c:α→Int) (l:List α) (rs:List (List Value)) {sv tv:Value} {d:FuncId} {N:Nat} {w:World} (m:∀ (j:Array Value) (W:World),(callFunc d j).run prog W=.ok (.enter d j) W) (hN:N≤w.heap.size) (hl:Q9 w N sv k rs) (hk:∀ r∈rs,r.length=k) (he:rs.length=l.length) (hlen:l.length≤1000000) (hs:l.Pairwise fun a b=>c b<0→c a<0)
    (hc:∀ (i:Nat) r p W,rs[i]?=some r→l[i]?=some p→Bd w W→Calls prog d #[.agg r.toArray,tv] W fun e W'=>e=.returned (Bb (c p))∧Bd W W') :
    Calls prog f #[sv,tv,.func (.func d) #[] #[]] w fun e w'=>Bd w w'∧∃ i fd,AtL c l i fd∧e=.returned (.tuple #[Bb (i:Nat),.bool fd]):=by
  refine (h hS (QkC c l) rs sv tv d N w m hN hl hk (by omega) (by rw [he];exact QjA hs) fun i r W hr hb=>?_).mono ?_
  · have hp:=Bk (l:=l) (i:=i) (by rw [← he];exact (Bm.1 hr).1)
    rw [Qbn hp];exact hc i r _ W hr hp hb
  · rintro e w' ⟨hb,i,fd,rfl,h1,h2,h3,h4⟩
    rw [he] at h1 h3 h4;exact ⟨hb,i,fd,QqX h1 h2 h3 h4,rfl⟩
structure Vl where
  key:Nat
  power:Nat
structure Vt where
  is:Bool
  r:Nat
  s:Nat
structure Hd where
  chain:ByteArray
  height:Int
  time:Int
  root:Bg
  vals:Bg
  next:Bg
structure Sg where
  hd:Hd
  vals:List Vl
  votes:List Vt
def Vl.ok (v:Vl):Prop:=v.key<18446744073709551616∧v.power<18446744073709551616
def Vt.ok (v:Vt):Prop:=v.r<18446744073709551616∧v.s<18446744073709551616
def Vt.none:Vt:=⟨false,0,0⟩
variable {ts:List Vt}
def Hd.none:Hd:=⟨⟨#[]⟩,0,0,[],[],[]⟩
def Sg.none:Sg:=⟨Hd.none,[],[]⟩
def Hd.fits (h:Hd):Prop:=h.chain.size≤140737488351232∧h.root.length≤140737488351232∧h.vals.length≤140737488351232∧h.next.length≤140737488351232
def Sg.fits (s:Sg):Prop:=s.hd.fits∧s.vals.length<2305843009213693952∧s.votes.length<2305843009213693952∧(∀ v∈s.vals,v.ok)∧∀ v∈s.votes,v.ok
def Qfo:Option Nat→Nat→Bool
  | none,_=>false
  | some k,x=>decide (x≤k)
def Z3 (p:Option Nat):List Vl→Int
  | []=>0
  | v :: r=>if v.power<1∨1000000<v.power then 3 else if Qfo p v.key=true then 2 else Z3 (some v.key) r
def JB (l:List Vl):Int:=if l.length<1∨10<l.length then 5 else Z3 none l
def QbL (l:List Vl) (k:Nat):Option Nat:=if k=0 then none else (l[k-1]?).map (·.key)
theorem QqC (l:List Vl) (k:Nat) (v:Vl) (h:l[k]?=some v):Z3 (QbL l k) (l.drop k) =
    if v.power<1∨1000000<v.power then 3 else if Qfo (QbL l k) v.key=true then 2 else Z3 (QbL l (k+1)) (l.drop (k+1)):=by
  obtain ⟨hk,rfl⟩:=Bm.1 h;rw [Cs hk,Z3];have e:QbL l (k+1)=some l[k].key:=by unfold QbL;simp [hk]
  rw [e]
theorem Qoa (l:List Vl) (k:Nat) (h:l.length≤k):Z3 (QbL l k) (l.drop k)=0:=by
  rw [CK h,Z3]
theorem QjR:∀ (l:List Vl) (p:Option Nat),Z3 p l=0→(∀ v∈l,1≤v.power∧v.power≤1000000)∧(∀ k,p=some k→∀ v∈l,k<v.key)∧l.Pairwise (fun a b=>a.key<b.key)
  | [],_,_=>⟨by simp,by simp,List.Pairwise.nil⟩
  | v :: r,p,h=>by
    rw [Z3] at h
    split at h
    · cases h
    · rename_i h1
      split at h
      · cases h
      · rename_i h2
        obtain ⟨e,j,m⟩:=QjR r _ h;have d:=j v.key rfl;refine ⟨fun x hx=>?_,fun k hk x hx=>?_,List.Pairwise.cons (fun x hx=>d x hx) m⟩
        · rcases Bo.1 hx with rfl | hx
          · omega
          · exact e x hx
        · subst hk
          simp [Qfo] at h2
          rcases Bo.1 hx with rfl | hx
          · exact h2
          · exact DQ h2 (d x hx)
theorem Ze {l:List Vl} (h:JB l=0):1≤l.length∧l.length≤10∧(∀ v∈l,1≤v.power∧v.power≤1000000)∧l.Pairwise (fun a b=>a.key<b.key):=by grind [JB,QjR]
def QeV (c:UInt8):Bool:=(decide (97≤c.toNat) && decide (c.toNat≤122)) || (decide (48≤c.toNat) && decide (c.toNat≤57))
def Zo (s:ByteArray):Bool:=decide (1≤s.size) && decide (s.size≤20) && s.data.toList.all QeV
theorem Qf6 {s:ByteArray} (h:s.size<1∨20<s.size):Zo s=false:=by grind [Zo]
theorem Qr5 {s:ByteArray} (k:Nat) (hk:k<s.size) (h:QeV s[k]=false):Zo s=false:=by
  unfold Zo
  have:s.data.toList.all QeV=false:=by
    rw [List.all_eq_false];refine ⟨s[k],?_,by rw [h];decide⟩
    exact Array.mem_toList_iff.2 (Array.getElem_mem (xs:=s.data) hk)
  rw [this,Bool.and_false]
theorem Qp4 {s:ByteArray} (h1:1≤s.size) (h2:s.size≤20) (h:∀ k (hk:k<s.size),QeV s[k]=true):Zo s=true:=by
  unfold Zo;rw [BB h1,BB h2];simp only [Bool.true_and];rw [C9];intro x hx;obtain ⟨k,hk,rfl⟩:=Dx hx;exact h k (by simpa using hk)
def Jq (h:Hd):Int :=
  if Zo h.chain=false then 7 else if h.height<1∨1000000000000<h.height∨h.time<0∨1000000000000<h.time then 3
  else if h.root.length≠32∨h.vals.length≠32∨h.next.length≠32 then 2 else 0
theorem QaN {h:Hd} (e:Jq h=0):(Zo h.chain=true∧1≤h.chain.size∧h.chain.size≤20)∧(1≤h.height∧h.height≤1000000000000∧0≤h.time∧h.time≤1000000000000)∧h.root.length=32∧h.vals.length=32∧h.next.length=32:=by grind [Jq,Zo]
def Zl (s:ByteArray):Bg:=s.data.toList.map UInt8.toBitVec
theorem Q7 (s:ByteArray):(Zl s).length=s.size:=by simp [Zl]
theorem QrU {s t:ByteArray} (h:Zl s=Zl t):s=t:=by
  have:s.data.toList=t.data.toList:=by
    refine List.map_inj_right (f:=UInt8.toBitVec) ?_ |>.1 h;intro x y e;exact UInt8.eq_of_toBitVec_eq e
  obtain ⟨a⟩:=s;simp at this;rw [this]
def Yz (l:List Vl):List Pc:=l.flatMap fun v=>[⟨1,v.key,[]⟩,⟨1,v.power,[]⟩]
theorem ZI (l:List Vl):(Yz l).length=2*l.length:=by induction l <;> grind [Yz]
def QfL (l:List Vl):Bg:=Zb (Yz l).length ++ wrs (Yz l)
def Qcy (l:List Vl):Bg:=sha (QfL l)
theorem Qil:∀ (l:List Vl),(∀ v∈l,v.ok)→(wrs (Yz l)).length≤22*l.length
  | [],_=>by simp [wrs,Yz]
  | v :: r,h=>by
    have ih:=Qil r (fun x hx=>h x (Cr _ hx))
    obtain ⟨h1,h2⟩:=h v Ck;have e1:=Q4 v.key h1;have e2:=Q4 v.power h2
    have:wrs (Yz (v :: r))=(0 :: Zb v.key) ++ ((0 :: Zb v.power) ++ wrs (Yz r)):=by
      simp [wrs,Yz,Pc.wr]
    rw [this];simp;omega
theorem Qoi (l:List Vl) (hl:l.length≤10) (h:∀ v∈l,v.ok):YB (Yz l)=.ok (QfL l):=by grind [YB,Yz,QfL,ZI,Qil,Q4,Qfm]
theorem QiN (l:List Vl) (hl:l.length≤10) (h:∀ v∈l,v.ok):(QfL l).length≤300:=by grind [QfL,ZI,Qil,Q4]
def Zg (h:Hd):List Pc:=[⟨2,0,Zl h.chain⟩,⟨1,h.height.toNat,[]⟩,⟨1,h.time.toNat,[]⟩,⟨2,0,h.root⟩,⟨2,0,h.vals⟩,⟨2,0,h.next⟩]
def Ji (h:Hd):Bg:=Zb 6 ++ wrs (Zg h)
theorem QmG (h:Hd) (e:Jq h=0):(Ji h).length≤300:=by
  obtain ⟨⟨_,h1,h2⟩,h3,h4,h5,h6⟩:=QaN e;have e1:=Q4 h.height.toNat (by omega)
  have e2:=Q4 h.time.toNat (by omega)
  have e3:=Q4 6 (by omega)
  have e4:=Q4 (Zl h.chain).length (by rw [Q7];omega)
  have e5:=Q4 32 (by omega)
  have hl:=Q7 h.chain;unfold Ji;simp [wrs,Zg,Pc.wr,h4,h5,h6];omega
theorem Qeo (h:Hd) (e:Jq h=0):YB (Zg h)=.ok (Ji h):=by
  have h1:=QmG h e;refine Qfm _ _ _ (fun p hp=>?_) (by exact Bh h1 (by omega))
  simp [Zg] at hp
  rcases hp with rfl | rfl | rfl | rfl | rfl | rfl <;> simp
theorem Qb7 (h:Hd) (e:Jq h=0):∀ p∈Zg h,p.ok∧p.b.length≤140737488351232:=by grind [Zg,QaN,Q7,Pc.ok]
theorem QmQ {a b:Hd} (ha:Jq a=0) (hb:Jq b=0) (e:Ji a=Ji b):a=b:=by
  have h:=(Qvg (Zg a) (Zg b) _ _ (fun p hp=>(Qb7 a ha p hp).1) (fun p hp=>(Qb7 b hb p hp).1) (Qeo a ha) (Qeo b hb)).1 e
  obtain ⟨_,h3,_⟩:=QaN ha;obtain ⟨_,k3,_⟩:=QaN hb;simp [Zg,Pc.norm] at h;obtain ⟨e1,e2,e3,e4,e5,e6⟩:=h;have d:=QrU e1;obtain ⟨a1,a2,a3,a4,a5,a6⟩:=a;obtain ⟨b1,b2,b3,b4,b5,b6⟩:=b;simp at d e2 e3 e4 e5 e6 h3 k3;obtain rfl:a2=b2:=by omega
  obtain rfl:a3=b3:=by omega
  rw [d,e4,e5,e6]
def Jk (h:Hd) (l:List Vl):Int:=if Jq h≠0 then Jq h else if JB l≠0 then JB l else if h.vals=Qcy l then 0 else 8
theorem Ya {h:Hd} {l:List Vl} (e:Jk h l=0):Jq h=0∧JB l=0∧h.vals=Qcy l:=by grind [Jk]
def Qjo (key:Nat) (m:Bg) (r s:Nat):Bool :=
  decide (1≤key∧key<1152921504606849707) && (decide (1≤r∧r<1152921504606849707) && (decide (s<576460752303424853) && (decide (Qt8 key=1) && decide (Qgq 4 s=QlY r (Qgq key (Qpb r key m))))))
theorem Qrz {key:Nat} {m:Bg} {r s:Nat} {b:Bool} (h:b=true↔QdN key m r s):b=Qjo key m r s:=by grind [QdN,Qjo]
def Y1 (m:Bg):List Vl→List Vt→Bool
  | v :: l,t :: r=>(!t.is || Qjo v.key m t.r t.s) && Y1 m l r
  | _,_=>true
def Qgs:List Vl→List Vt→Nat
  | v :: l,t :: r=>(if t.is then v.power else 0)+Qgs l r
  | _,_=>0
def Qa5 (l:List Vl):Nat:=(l.map (·.power)).sum
def Zk (s:Sg):Int :=
  if Jk s.hd s.vals≠0 then Jk s.hd s.vals else if s.votes.length≠s.vals.length then 8
  else if Y1 (Ji s.hd) s.vals s.votes=false then 10 else if 3*Qgs s.vals s.votes≤2*Qa5 s.vals then 10 else 0
theorem Qi6 {s:Sg} (e:Zk s=0):Jk s.hd s.vals=0∧s.votes.length=s.vals.length∧Y1 (Ji s.hd) s.vals s.votes=true∧2*Qa5 s.vals<3*Qgs s.vals s.votes:=by grind [Zk]
def Z4 (key:Nat):List Vl→List Vt→Bool
  | v :: l,t :: r=>(decide (v.key=key) && t.is) || Z4 key l r
  | _,_=>false
def QeY (s:Sg):List Vl→Nat
  | []=>0
  | v :: l=>(if Z4 v.key s.vals s.votes then v.power else 0)+QeY s l
def QjD (t:List Vl) (s:Sg):Bool:=decide (Qa5 t<3*QeY s t)
theorem Qgv:∀ (l:List Vl),(∀ v∈l,v.power≤1000000)→Qa5 l≤1000000*l.length
  | [],_=>by simp [Qa5]
  | v :: r,h=>by
    have ih:=Qgv r (fun x hx=>h x (Cr _ hx))
    have:=h v Ck;simp [Qa5] at ih ⊢;omega
theorem QoZ:∀ (l:List Vl) (m:List Vt),Qgs l m≤Qa5 l
  | [],_=>by simp [Qgs]
  | v :: l,[]=>by simp [Qgs]
  | v :: l,t :: m=>by
    have ih:=QoZ l m;simp [Qgs,Qa5] at ih ⊢
    split <;> omega
theorem Ql2 (s:Sg):∀ (l:List Vl),QeY s l≤Qa5 l
  | []=>by simp [QeY]
  | v :: l=>by
    have ih:=Ql2 s l;simp [QeY,Qa5] at ih ⊢
    split <;> omega
def Qmy (v:Vl):List Value:=[.int .u64 (v.key:Int),.int .u64 (v.power:Int)]
def QoW (v:Vt):List Value:=[.bool v.is,.int .u64 (v.r:Int),.int .u64 (v.s:Int)]
def Zw (w:World) (N:Nat) (sv:Value) (l:List Vl):Prop:=Q9 w N sv 2 (l.map Qmy)
def Zx (w:World) (N:Nat) (sv:Value) (l:List Vt):Prop:=Q9 w N sv 3 (l.map QoW)
theorem Zw.below {l:List Vl} (h:Zw w N sv l) (hg:Below N w w'):Zw w' N sv l:=Q9.below h hg
theorem Zx.below {l:List Vt} (h:Zx w N sv l) (hg:Below N w w'):Zx w' N sv l:=Q9.below h hg
theorem Zw.mono {l:List Vl} (h:Zw w N sv l) (hg:N≤g):Zw w g sv l:=Q9.mono h hg
theorem Zx.mono {l:List Vt} (h:Zx w N sv l) (hg:N≤g):Zx w g sv l:=Q9.mono h hg
theorem Zw.shape {l:List Vl} (h:Zw w N sv l):∃ oa b,sv=.slice oa l.length b∧l.length≤b:=by grind [Zw,Q9.shape]
theorem Zx.shape {l:List Vt} (h:Zx w N sv l):∃ oa b,sv=.slice oa l.length b∧l.length≤b:=by grind [Zx,Q9.shape]
theorem Zw.spot {e:Nat} {l:List Vl} (h:Zw w N (.slice oa n e) l) (hl:0<n) :
    ∃ b d,oa=some ⟨b,d,none⟩∧∀ i v,l[i]?=some v→b<N∧w.cell? ⟨b,d+i*2,none⟩=some (.int .u64 (v.key:Int))∧w.cell? ⟨b,d+i*2+1,none⟩=some (.int .u64 (v.power:Int)):=by
  obtain ⟨b,d,h1,h2⟩:=Q9.spot h hl;refine ⟨b,d,h1,fun i v hv=>?_⟩
  obtain ⟨h3,h4⟩:=h2 i (Qmy v) (by simp [hv])
  exact ⟨h3,h4 0 _ rfl,h4 1 _ rfl⟩
theorem Zx.spot {e:Nat} {l:List Vt} (h:Zx w N (.slice oa n e) l) (hl:0<n) :
    ∃ b d,oa=some ⟨b,d,none⟩∧∀ i v,l[i]?=some v→b<N∧w.cell? ⟨b,d+i*3,none⟩=some (.bool v.is)∧w.cell? ⟨b,d+i*3+1,none⟩=some (.int .u64 (v.r:Int))∧w.cell? ⟨b,d+i*3+2,none⟩=some (.int .u64 (v.s:Int)):=by
  obtain ⟨b,d,h1,h2⟩:=Q9.spot h hl;refine ⟨b,d,h1,fun i v hv=>?_⟩
  obtain ⟨h3,h4⟩:=h2 i (QoW v) (by simp [hv])
  exact ⟨h3,h4 0 _ rfl,h4 1 _ rfl,h4 2 _ rfl⟩
def HdV (w:World) (N:Nat) (v:Value) (h:Hd):Prop:=∃ rv vv nv,v=.agg #[.string h.chain,Bb h.height,Bb h.time,rv,vv,nv]∧Bytes w N rv h.root∧Bytes w N vv h.vals∧Bytes w N nv h.next
theorem HdV.below {h:Hd} (k:HdV w N v h) (hg:Below N w w'):HdV w' N v h:=by
  obtain ⟨rv,vv,nv,rfl,h1,h2,h3⟩:=k;exact ⟨rv,vv,nv,rfl,h1.below hg,h2.below hg,h3.below hg⟩
theorem HdV.mono {h:Hd} (k:HdV w N v h) (hg:N≤g):HdV w g v h:=by
  obtain ⟨rv,vv,nv,rfl,h1,h2,h3⟩:=k;exact ⟨rv,vv,nv,rfl,h1.mono hg,h2.mono hg,h3.mono hg⟩
def SgV (w:World) (N:Nat) (v:Value) (s:Sg):Prop:=∃ rv vv nv lv tv,v=.agg #[.string s.hd.chain,Bb s.hd.height,Bb s.hd.time,rv,vv,nv,lv,tv]∧Bytes w N rv s.hd.root∧Bytes w N vv s.hd.vals∧Bytes w N nv s.hd.next∧Zw w N lv s.vals∧Zx w N tv s.votes
theorem SgV.below {s:Sg} (k:SgV w N v s) (hg:Below N w w'):SgV w' N v s:=by
  obtain ⟨rv,vv,nv,lv,tv,rfl,h1,h2,h3,h4,h5⟩:=k;exact ⟨rv,vv,nv,lv,tv,rfl,h1.below hg,h2.below hg,h3.below hg,h4.below hg,h5.below hg⟩
theorem SgV.mono {s:Sg} (k:SgV w N v s) (hg:N≤g):SgV w g v s:=by
  obtain ⟨rv,vv,nv,lv,tv,rfl,h1,h2,h3,h4,h5⟩:=k;exact ⟨rv,vv,nv,lv,tv,rfl,h1.mono hg,h2.mono hg,h3.mono hg,h4.mono hg,h5.mono hg⟩
theorem Row.eight {a b c d e f x:Value} (h:Row w g t [a,b,c,d,e,f,x,v]) :
    w.cell? ⟨g,0,none⟩=some a∧w.cell? ⟨g,1,none⟩=some b∧w.cell? ⟨g,2,none⟩=some c∧w.cell? ⟨g,3,none⟩=some d∧w.cell? ⟨g,4,none⟩=some e∧w.cell? ⟨g,5,none⟩=some f∧w.cell? ⟨g,6,none⟩=some x∧w.cell? ⟨g,7,none⟩=some v :=
  ⟨h.cell 0,h.cell 1,h.cell 2,h.cell 3,h.cell 4,h.cell 5,h.cell 6,h.cell 7⟩
def QbB:Value→Bool
  | .string _=>true
  | .int .i64 _=>true
  | .slice _ _ _=>true
  | _=>false
theorem QjC {b o:Nat} {x:Value} (hr:Row w g t cs) (hp:cs.all QbB=true) (ho:∀ k,k≠g→w'.heap[k]?=w.heap[k]?) (hc:w.cell? ⟨b,o,none⟩=some x) (hx:QbB x=false):w'.cell? ⟨b,o,none⟩=some x:=by
  have hb:b≠g:=by
    rintro rfl;rw [hr.cell] at hc;have:=C9.1 hp x (Bn hc);rw [hx] at this
    cases this
  rw [← hc];exact Ea (ho b hb)
theorem Bytes.only (h:Bytes w N sv l) (hr:Row w g t cs) (hp:cs.all QbB=true) (ho:∀ k,k≠g→w'.heap[k]?=w.heap[k]?):Bytes w' N sv l:=by grind [Bytes,QbB,QjC]
theorem Q9.only (h:Q9 w N sv k rs) (hr:Row w g t cs) (hp:cs.all QbB=true) (hq:∀ r∈rs,∀ x∈r,QbB x=false) (ho:∀ k,k≠g→w'.heap[k]?=w.heap[k]?):Q9 w' N sv k rs:=by
  rcases h with h | h | ⟨b,off,cap,h1,h2,h3⟩
  · exact .inl h
  · exact .inr (.inl h)
  · exact .inr (.inr ⟨b,off,cap,h1,h2,fun i r hi=>⟨(h3 i r hi).1,fun j x hx=>QjC hr hp ho ((h3 i r hi).2 j x hx) (hq r (Bn hi) x (Bn hx))⟩⟩)
theorem Zw.only {l:List Vl} (h:Zw w N sv l) (hr:Row w g t cs) (hp:cs.all QbB=true) (ho:∀ k,k≠g→w'.heap[k]?=w.heap[k]?):Zw w' N sv l:=by grind [Zw,QbB,Q9.only,Qmy]
theorem Zx.only {l:List Vt} (h:Zx w N sv l) (hr:Row w g t cs) (hp:cs.all QbB=true) (ho:∀ k,k≠g→w'.heap[k]?=w.heap[k]?):Zx w' N sv l :=
  Q9.only h hr hp (fun r hr x hx=>by
    obtain ⟨v,_,rfl⟩:=BG.1 hr;simp [QoW] at hx
    rcases hx with rfl | rfl | rfl <;> rfl) ho
theorem SgV.only {s:Sg} (h:SgV w N v s) (hr:Row w g t cs) (hp:cs.all QbB=true) (ho:∀ k,k≠g→w'.heap[k]?=w.heap[k]?):SgV w' N v s:=by
  obtain ⟨rv,vv,nv,lv,tv,rfl,h1,h2,h3,h4,h5⟩:=h;exact ⟨rv,vv,nv,lv,tv,rfl,h1.only hr hp ho,h2.only hr hp ho,h3.only hr hp ho,h4.only hr hp ho,h5.only hr hp ho⟩
theorem QcX (c:UInt8) (w:World):Calls prog 38 #[.int .u8 (c.toNat:Int)] w fun e w'=>e=.returned (.bool (QeV c))∧w'=w:=by
  unfold QeV
  by_cases h1:97≤c.toNat
  · have e1:decide ((97:Int)≤(c.toNat:Int))=true:=by simp;omega
    by_cases h2:c.toNat≤122
    · have e2:decide ((c.toNat:Int)≤122)=true:=by simp;omega
      go_in
      go_wp2;go_ret;exact ⟨by simp [h1,h2],rfl⟩
    · have e2:decide ((c.toNat:Int)≤122)=false:=by simp;omega
      have e4:decide ((c.toNat:Int)≤57)=false:=by grind
      go_in
      go_wp2;go_ret
      exact ⟨by have:¬ c.toNat≤57:=by omega
                simp [h2,this],rfl⟩
  · have e1:decide ((97:Int)≤(c.toNat:Int))=false:=by simp;omega
    by_cases h3:48≤c.toNat
    · have e3:decide ((48:Int)≤(c.toNat:Int))=true:=by simp;omega
      by_cases h4:c.toNat≤57
      · have e4:decide ((c.toNat:Int)≤57)=true:=by simp;omega
        go_in
        go_wp2;go_ret;exact ⟨by simp [h3,h4],rfl⟩
      · have e4:decide ((c.toNat:Int)≤57)=false:=by simp;omega
        go_in
        go_wp2;go_ret;exact ⟨by simp [h1,h4],rfl⟩
    · have e3:decide ((48:Int)≤(c.toNat:Int))=false:=by simp;omega
      go_in
      go_wp2;go_ret;exact ⟨by simp [h1,h3],rfl⟩
theorem QaV (s:ByteArray) (w:World) (hs:s.size≤140737488351232):Calls prog 13 #[.string s] w fun e w'=>e=.returned (.bool (Zo s))∧w'=w:=by
  by_cases h1:s.size<1
  · have e1:decide ((s.size:Int)<1)=true:=by simp;omega
    have HN:=hid (Qf6 (.inl h1))
    go_in
    go_wp2;go_ret;exact ⟨by rw [HN.out];first | done | rfl,rfl⟩
  · have e1:decide ((s.size:Int)<1)=false:=by simp;omega
    by_cases h2:20<s.size
    · have e2:decide ((20:Int)<(s.size:Int))=true:=by simp;omega
      have HN:=hid (Qf6 (.inr h2))
      go_in
      go_wp2;go_ret;exact ⟨by rw [HN.out];first | done | rfl,rfl⟩
    · have e2:decide ((20:Int)<(s.size:Int))=false:=by simp;omega
      go_in
      go_wp2
      go_loop [3,14] (fun _ i=>∃ k:Nat,k≤s.size∧i=Bb (k:Int)∧Hid (∀ j (hj:j<s.size),j<k→QeV s[j]=true)) (fun _ i=>s.size-(intOf i).toNat)
      case atStart=>exact ⟨0,by omega,rfl,hid (fun j _ hj=>absurd hj (by omega))⟩
      case round =>
        obtain ⟨k,hk,rfl,HR⟩:=hrel
        by_cases b:k<s.size
        · have hlt':(k:Int)<(s.size:Int):=by omega
          by_cases hc:QeV s[k]=true
          · go_wp2_with (go_at_call 38;refine (QcX _ _).mono ?_;rintro e w' ⟨rfl,rfl⟩)
            go_round
            case rel=>exact ⟨k+1,by omega,by go_num,hid (fun j hj hj2=>by
              by_cases e:j=k
              · simp_all
              · exact HR.out j hj (by omega))⟩
            case measure=>simp [intOf];omega
          · have hc':QeV s[k]=false:=by simpa using hc
            have HN:=hid (Qr5 k b hc')
            go_wp2_with (go_at_call 38;refine (QcX _ _).mono ?_;rintro e w' ⟨rfl,rfl⟩)
            go_ret;exact ⟨by rw [HN.out];first | done | rfl,rfl⟩
        · have hge:decide ((k:Int)<(s.size:Int))=false:=by simp;omega
          go_wp2;go_ret;exact ⟨by rw [Qp4 (by omega) (by omega) (fun j hj=>HR.out j hj (by omega))];first | done | rfl,rfl⟩
theorem QqK (h:Hd) (v:Value) (N:Nat) (w:World) (hv:HdV w N v h) (hf:h.fits) :
    Calls prog 240 #[v] w fun e w'=>e=.returned (Bb (Jq h))∧Bd w w':=by
  obtain ⟨rv,vv,nv,rfl,h1,h2,h3⟩:=hv;obtain ⟨o1,c1,rfl,_⟩:=h1.shape;obtain ⟨o2,c2,rfl,_⟩:=h2.shape;obtain ⟨o3,c3,rfl,_⟩:=h3.shape;obtain ⟨f1,f2,f3,f4⟩:=hf;clear h1 h2 h3;obtain ⟨w0,b⟩:∃ w0,w.alloc (.cells #[.string h.chain,Bb h.height,Bb h.time,.slice o1 h.root.length c1,.slice o2 h.vals.length c2,.slice o3 h.next.length c3] 33)=w0:=⟨_,rfl⟩;have d:=hid (show Bd w w0 by rw [← b];exact (Bi _ _).alloc (Bj _) _)
  have kk:=(show Row w0 w.heap.size 33 [.string h.chain,Bb h.height,Bb h.time,.slice o1 h.root.length c1,.slice o2 h.vals.length c2,.slice o3 h.next.length c3] by rw [← b];exact Row.new _ _ _).cell
  have HW:=hid (show Jq h=if (!Zo h.chain)=true then 7 else if (decide (h.height<1) || decide (1000000000000<h.height) || decide (h.time<0) || decide (1000000000000<h.time))=true then 3 else if (((h.root.length:Int) != 32) || ((h.vals.length:Int) != 32) || ((h.next.length:Int) != 32))=true then 2 else 0 by grind [Jq])
  cases q0:Zo h.chain
  rotate_left
  cases q1:decide (h.height<1)
  cases q2:decide (1000000000000<h.height)
  cases q3:decide (h.time<0)
  cases q4:decide (1000000000000<h.time)
  cases q5:((h.root.length:Int) != 32)
  cases q6:((h.vals.length:Int) != 32)
  cases q7:((h.next.length:Int) != 32)
  all_goals
    go_in
    go_wp2_with (go_at_call 13;refine (QaV _ _ f1).mono ?_;rintro e w' ⟨rfl,rfl⟩)
    go_ret;exact ⟨by rw [HW.out];simp [*];first | done | rfl,d.out⟩
def Qvx (f:FuncId):Prop:=∀ (l:List Vl) (sv:Value) (N:Nat) (w:World),Zw w N sv l→N≤w.heap.size→l.length<2305843009213693952 →
  Calls prog f #[sv] w fun e w'=>e=.returned (Bb (JB l))∧Bd w w'
theorem QY (w:World) (n N:Nat):Below N w (w.drewN n):=⟨rfl,rfl,rfl,Bj _,fun _ _=>rfl⟩
theorem QjS (l:List Vl) (h:l.length<1∨10<l.length):JB l=5:=by grind [JB]
theorem Qtd (l:List Vl) (h:¬ (l.length<1∨10<l.length)):JB l=Z3 (QbL l 0) (l.drop 0):=by unfold JB;rw [if_neg h];rfl
theorem QnD (l:List Vl):QbL l 0=none:=rfl
theorem QnC (l:List Vl) (j:Nat) (y:Vl) (h:l[j]?=some y):QbL l (j+1)=some y.key:=by simp [QbL,h]
theorem QuK: Qvx 214:=by
  intro l sv N w hb hN hlen;obtain ⟨oa,ca,rfl,hca⟩:=hb.shape;have HB:=hid hb;clear hb;generalize hn:l.length=n at *;have HN:=hid hn;clear hn
  by_cases h1:n<1
  · have e1:decide ((n:Int)<1)=true:=by simp;omega
    have HV:=hid (QjS l (.inl (by rw [HN.out];exact h1)))
    go_in
    go_wp2;go_ret;exact ⟨by rw [HV.out];first | done | rfl,Bi _ _⟩
  · have e1:decide ((n:Int)<1)=false:=by simp;omega
    by_cases h2:10<n
    · have e2:decide ((10:Int)<(n:Int))=true:=by simp;omega
      have HV:=hid (QjS l (.inr (by rw [HN.out];exact h2)))
      go_in
      go_wp2;go_ret;exact ⟨by rw [HV.out];first | done | rfl,Bi _ _⟩
    · have e2:decide ((10:Int)<(n:Int))=false:=by simp;omega
      have HV:=hid (Qtd l (by rw [HN.out];omega))
      go_in
      go_wp2
      go_loopw [3,4,15] (fun _ _ i wr=>∃ k:Nat,k≤n∧i=Bb (k:Int)∧Hid (Bd w wr∧JB l=Z3 (QbL l k) (l.drop k))) (fun _ _ i _=>n-(intOf i).toNat)
      case atStart=>exact ⟨0,by omega,rfl,hid ⟨Bi _ _,HV.out⟩⟩
      case round =>
        obtain ⟨k,hk,rfl,HT⟩:=hrel;have M:=HT.out.1.size
        by_cases S:k<n
        · obtain ⟨v,hv⟩:∃ v,l[k]?=some v:=⟨l[k]'(by rw [HN.out];exact S),Bk _⟩
          obtain ⟨b,o,rfl,d⟩:=HB.out.spot (by omega)
          obtain ⟨hbN,d0,d1⟩:=d k v hv;have G:b<w.heap.size:=by omega
          have f0:=(HT.out.1.cell (p:=⟨b,o+k*2,none⟩) G).trans d0;have f1:=(HT.out.1.cell (p:=⟨b,o+k*2+1,none⟩) G).trans d1;have E:=hid (QqC l k v hv);have hlt':(k:Int)<(n:Int):=by omega
          obtain ⟨w2,C⟩:∃ w2,wr.alloc (.cells #[.int .u64 (v.key:Int),.int .u64 (v.power:Int)] 304)=w2:=⟨_,rfl⟩;have D:=bof C;have q:=hid (HT.out.1.trans (D.mono M));have m:Row w2 wr.heap.size 304 [.int .u64 (v.key:Int),.int .u64 (v.power:Int)]:=by rw [← C];exact Row.new _ _ _
          have q0:=m.cell 0;have q1:=m.cell 1;have A:=hid C;clear d0 d1 D m C
          by_cases T:v.power<1
          · have g1:decide ((v.power:Int)<1)=true:=by simp;omega
            have e:=hid (show JB l=3 by rw [HT.out.2,E.out,if_pos (.inl T)])
            go_wp2_with fail
            rw [A.out];go_wp2;go_ret;exact ⟨by rw [e.out];first | done | rfl,q.out⟩
          · have g1:decide ((v.power:Int)<1)=false:=by simp;omega
            by_cases Y:1000000<v.power
            · have g2:decide ((1000000:Int)<(v.power:Int))=true:=by simp;omega
              have e:=hid (show JB l=3 by rw [HT.out.2,E.out,if_pos (.inr Y)])
              go_wp2_with fail
              rw [A.out];go_wp2;go_ret;exact ⟨by rw [e.out];first | done | rfl,q.out⟩
            · have g2:decide ((1000000:Int)<(v.power:Int))=false:=by simp;omega
              have z:=hid (E.out.trans (if_neg (by omega)))
              cases k with
              | zero =>
                have e:=hid (show JB l=Z3 (QbL l 1) (l.drop 1) by rw [HT.out.2,z.out,if_neg (by simp [QnD,Qfo])])
                have f0':wr.cell? ⟨b,o,none⟩=some (.int .u64 (v.key:Int)):=by simpa using f0
                have f1':wr.cell? ⟨b,o+1,none⟩=some (.int .u64 (v.power:Int)):=by simpa using f1
                clear d
                go_wp2_with fail
                rw [A.out]
                go_wp2_with fail
                go_quiet (fail)
                go_wp2;go_roundw
                case rel=>exact ⟨1,by omega,by go_num,hid ⟨q.out.trans (QY _ _ _),e.out⟩⟩
                case measure=>simp [intOf];omega
              | succ j =>
                obtain ⟨y,hy⟩:∃ y,l[j]?=some y:=⟨l[j]'(by rw [HN.out];omega),Bk _⟩
                obtain ⟨_,t0,t1⟩:=d j y hy;have t0':=(q.out.cell (p:=⟨b,o+j*2,none⟩) G).trans t0;have I:=hid (QnC l j y hy);have O:((j+1:Nat):Int)-1=(j:Int):=by omega
                have hj2:IntKind.i64.wrap (((j+1:Nat):Int)-1)=(j:Int):=by rw [O];simp [IntKind.wrap,IntKind.bits,IntKind.signed];split <;> omega
                have hjn:(j:Int)<(n:Int):=by omega
                have e4:decide ((0:Int)<((j+1:Nat):Int))=true:=BB (by omega)
                clear d hy t0 t1
                by_cases L:v.key≤y.key
                · have g5:decide ((v.key:Int)≤(y.key:Int))=true:=by simp;omega
                  have e:=hid (show JB l=2 by rw [HT.out.2,z.out,I.out,if_pos (by simpa [Qfo] using L)])
                  go_wp2_with fail
                  rw [A.out]
                  go_wp2_with fail
                  go_quiet (fail)
                  go_wp2;go_ret;exact ⟨by rw [e.out];first | done | rfl,q.out.trans (QY _ _ _)⟩
                · have g5:decide ((v.key:Int)≤(y.key:Int))=false:=by simp;omega
                  have e:=hid (show JB l=Z3 (QbL l (j+2)) (l.drop (j+2)) by rw [HT.out.2,z.out,I.out,if_neg (by simpa [Qfo] using L)])
                  go_wp2_with fail
                  rw [A.out]
                  go_wp2_with fail
                  go_quiet (fail)
                  go_wp2;go_roundw
                  case rel=>exact ⟨j+2,by omega,by go_num,hid ⟨q.out.trans (QY _ _ _),e.out⟩⟩
                  case measure=>simp [intOf];omega
        · have hge:decide ((k:Int)<(n:Int))=false:=by simp;omega
          have e:=hid (show JB l=0 by rw [HT.out.2,Qoa l k (by rw [HN.out];omega)])
          go_wp2;go_ret;exact ⟨by rw [e.out];first | done | rfl,HT.out.1⟩
def Zd (p:Nat→Bool):Nat→List Vl→Nat
  | _,[]=>0
  | k,v :: r=>(if p k then v.power else 0)+Zd p (k+1) r
theorem Qfb (p:Nat→Bool):∀ (a b:List Vl) (k:Nat),Zd p k (a ++ b)=Zd p k a+Zd p (k+a.length) b
  | [],b,k=>by simp [Zd]
  | v :: a,b,k=>by
    rw [Bz,Zd,Qfb p a b (k+1),Zd,Cy,show k+1+a.length=k+(a.length+1) by omega]
    omega
theorem Qn3 (p:Nat→Bool) (l:List Vl) (k:Nat) (v:Vl) (h:l[k]?=some v):Zd p 0 (l.take (k+1))=Zd p 0 (l.take k)+(if p k then v.power else 0):=by
  obtain ⟨hk,rfl⟩:=Bm.1 h;rw [Cx hk,Qfb,C2,DJ (by omega)]
  simp [Zd]
theorem Qo6 (l:List Vl) (k:Nat) (v:Vl) (h:l[k]?=some v):Qa5 (l.take (k+1))=Qa5 (l.take k)+v.power:=by
  obtain ⟨hk,rfl⟩:=Bm.1 h;unfold Qa5;rw [Cx hk,Cc,List.sum_append];simp
theorem Qmr (p:Nat→Bool):∀ (l:List Vl) (k:Nat),Zd p k l≤Qa5 l
  | [],_=>by simp [Zd]
  | v :: l,k=>by
    have ih:=Qmr p l (k+1);simp [Zd,Qa5] at ih ⊢
    split <;> omega
theorem QqA (vs:List Vl) (ts:List Vt):∀ (k:Nat) (p:Nat→Bool),ts.length=vs.length→(∀ i t,ts[i]?=some t→p (k+i)=t.is)→Zd p k vs=Qgs vs ts:=by
  induction vs generalizing ts with
  | nil=>intro k p h _;simp [Zd,Qgs]
  | cons v vs ih =>
    intro k p h hp
    cases ts with
    | nil=>simp at h
    | cons t ts =>
      have h0:=hp 0 t rfl;rw [BM] at h0;rw [Zd,Qgs,h0,ih ts (k+1) p (by simpa using h) (fun i t' ht=>by have:=hp (i+1) t' (by simpa using ht);rwa [show k+(i+1)=k+1+i by omega] at this)]
theorem Qn2 (s:Sg) (l:List Vl):∀ (k:Nat) (p:Nat→Bool),(∀ i v,l[i]?=some v→p (k+i)=Z4 v.key s.vals s.votes)→Zd p k l=QeY s l:=by
  induction l with
  | nil=>intro k p _;rfl
  | cons v l ih =>
    intro k p hp;have h0:=hp 0 v rfl;rw [BM] at h0;rw [Zd,QeY,h0,ih (k+1) p (fun i v' hv=>by have:=hp (i+1) v' (by simpa using hv);rwa [show k+(i+1)=k+1+i by omega] at this)]
theorem QjE (f:FuncId) (A:Array Value) (hrun:∀ (z:Array Value) (W:World),(callFunc f z).run prog W=.ok (.enter f z) W) (l:List Vl) (p:Nat→Bool) (sv:Value) (N:Nat) (w:World) (hN:N≤w.heap.size) (hl:Zw w N sv l) (hlen:l.length≤10) (hp:∀ v∈l,v.power≤1000000)
    (j:∀ (k:Nat) (wr:World),k<l.length→Bd w wr→Calls prog f (#[Bb (k:Int)] ++ A) wr fun e w'=>e=.returned (.bool (p k))∧Bd wr w') :
    Calls prog 210 #[sv,.func (.func f) #[] A] w fun e w'=>e=.returned (.tuple #[.int .u64 (Zd p 0 l:Int),.int .u64 (Qa5 l:Int)])∧Bd w w':=by
  obtain ⟨oa,ca,rfl,hca⟩:=hl.shape;have HL:=hid hl;have HP:=hid hp;have L:=hid j;clear hl hp j;generalize hn:l.length=n at *;have HN:=hid hn;clear hn
  go_in
  go_wp2_with fail
  go_loopw [4,5,6,7,10] (fun s4 s5 _ _ i wr=>∃ k:Nat,k≤n∧i=Bb (k:Int)∧s4=.int .u64 (Zd p 0 (l.take k):Int)∧s5=.int .u64 (Qa5 (l.take k):Int)∧Hid (Bd w wr)) (fun _ _ _ _ i _=>n-(intOf i).toNat)
  case atStart=>exact ⟨0,by omega,rfl,rfl,rfl,hid (Bi _ _)⟩
  case round =>
    obtain ⟨k,hk,rfl,rfl,rfl,HT⟩:=hrel
    by_cases D:k<n
    · have M:=Qgv (l.take k) (fun v hv=>HP.out v (DM hv))
      have h2:(l.take k).length≤10:=by grind
      have O:=Qmr p (l.take k) 0;obtain ⟨v,hv⟩:∃ v,l[k]?=some v:=⟨l[k]'(by rw [HN.out];exact D),Bk _⟩
      obtain ⟨b,o,rfl,d⟩:=HL.out.spot (by omega)
      obtain ⟨hbN,d0,d1⟩:=d k v hv;have f0:=(HT.out.cell (p:=⟨b,o+k*2,none⟩) (by show b<_;omega)).trans d0
      have f1:=(HT.out.cell (p:=⟨b,o+k*2+1,none⟩) (by show b<_;omega)).trans d1
      have hlt':(k:Int)<(n:Int):=by omega
      have hvp:=HP.out v (Bn hv);have HC:=hid (fun W hb=>L.out k W D (HT.out.trans (Below.mono hb HT.out.size)))
      have HA:=hid (Qo6 l k v hv);have I:=hid (Qn3 p l k v hv);clear d0 d1 d hv;generalize Qa5 (l.take k)=aa at *;generalize Zd p 0 (l.take k)=ss at *;have hwa:IntKind.u64.wrap ((aa:Int)+(v.power:Int))=((aa+v.power:Nat):Int):=Z7 aa v.power (by omega)
      have hws:IntKind.u64.wrap ((ss:Int)+(v.power:Int))=((ss+v.power:Nat):Int):=Z7 ss v.power (by omega)
      generalize E:p k=pk at *;have HPK:=hid E;clear E M h2 O
      go_wp2_with fail
      refine QbW ?_;intro w2 q m;have q1:=q.cell 1
      go_wp2_with fail
      refine (HC.out w2 m).mono ?_;rintro e w3 ⟨rfl,C⟩;have q1':=(q.below C q.lt).cell 1;have G:=hid (HT.out.trans ((m.trans (C.mono m.size)).mono HT.out.size));clear C q m q1
      cases pk
      all_goals
        go_wp2_with fail
        go_roundw
        case rel=>exact ⟨k+1,by omega,by go_num,by rw [I.out];simp,by rw [HA.out];first | rfl | go_num,G⟩
        case measure=>simp [intOf];omega
    · have hge:decide ((k:Int)<(n:Int))=false:=by simp;omega
      have HK:=hid (show l.take k=l from Bw (by rw [HN.out];omega))
      rw [HK.out];go_wp2;go_ret2;exact ⟨rfl,HT.out⟩
def QeA (a b:Nat):Int:=if a<b then -1 else if b<a then 1 else 0
theorem Qq8 (a b:Nat):QeA a b<0↔a<b:=by grind [QeA]
theorem Qpk (a b:Nat):QeA a b=0↔a=b:=by grind [QeA]
theorem Qfx (a:Nat) (w:World):Calls prog 286 #[.int .u64 (a:Int)] w fun e w'=>e=.returned (.bool false)∧w'=w:=by
  go_in
  go_wp2;go_ret;exact ⟨by simp;first | done | rfl,rfl⟩
theorem Qkc (a b:Nat) (w:World):Calls prog 280 #[.int .u64 (a:Int),.int .u64 (b:Int)] w fun e w'=>e=.returned (Bb (QeA a b))∧w'=w:=by
  by_cases h1:a<b
  · have e1:decide ((a:Int)<(b:Int))=true:=by simp;omega
    have HC:=hid (show QeA a b = -1 by unfold QeA;rw [if_pos h1])
    go_in
    go_wp2_with (go_at_call 286;refine (Qfx _ _).mono ?_;rintro e w' ⟨rfl,hw⟩;obtain rfl:=hw.symm)
    go_ret;exact ⟨by rw [HC.out];first | done | rfl,rfl⟩
  · have e1:decide ((a:Int)<(b:Int))=false:=by simp;omega
    by_cases h2:b<a
    · have e2:decide ((b:Int)<(a:Int))=true:=by simp;omega
      have HC:=hid (show QeA a b=1 by unfold QeA;rw [if_neg h1,if_pos h2])
      go_in
      go_wp2_with (go_at_call 286;refine (Qfx _ _).mono ?_;rintro e w' ⟨rfl,hw⟩;obtain rfl:=hw.symm)
      go_ret;exact ⟨by rw [HC.out];first | done | rfl,rfl⟩
    · have e2:decide ((b:Int)<(a:Int))=false:=by simp;omega
      have HC:=hid (show QeA a b=0 by unfold QeA;rw [if_neg h1,if_neg h2])
      go_in
      go_wp2_with (go_at_call 286;refine (Qfx _ _).mono ?_;rintro e w' ⟨rfl,hw⟩;obtain rfl:=hw.symm)
      go_ret;exact ⟨by rw [HC.out];first | done | rfl,rfl⟩
theorem Qkg (v:Vl) (key:Nat) (w:World) :
    Calls prog 266 #[.agg #[.int .u64 (v.key:Int),.int .u64 (v.power:Int)],.int .u64 (key:Int)] w fun e w'=>e=.returned (Bb (QeA v.key key))∧Bd w w':=by
  obtain ⟨w1,b⟩:∃ w1,w.alloc (.cells #[.int .u64 (v.key:Int),.int .u64 (v.power:Int)] 304)=w1:=⟨_,rfl⟩;have d:=hid (show Bd w w1 by rw [← b];exact (Bi _ _).alloc (by omega) _)
  have HC:=hid (Qkc v.key key w1);have HW:=hid b;clear b
  go_in
  go_wp2_with fail
  rw [HW.out];refine HC.out.mono ?_;rintro e w2 ⟨rfl,hw2⟩;go_wp2;go_ret;exact ⟨rfl,d.out⟩
def AtV (key:Nat) (l:List Vl) (i:Nat) (fd:Bool):Prop:=i≤l.length∧(∀ t v,t<i→l[t]?=some v→v.key<key)∧(∀ t v,i≤t→l[t]?=some v→key≤v.key)∧(fd=true↔∃ v,l[i]?=some v∧v.key=key)
theorem QkM {l:List Vl} (h:l.Pairwise (fun a b=>a.key<b.key)) {j:Nat} {a b:Vl} (d:i<j) (ha:l[i]?=some a) (hb:l[j]?=some b):a.key<b.key:=by
  obtain ⟨hi,rfl⟩:=Bm.1 ha;obtain ⟨hj,rfl⟩:=Bm.1 hb;exact Ef.1 h i j hi hj d
theorem Qmj (l:List Vl) (k:Nat) (sv:Value) (N:Nat) (w:World) (hN:N≤w.heap.size) (hl:Zw w N sv l) (hs:l.Pairwise (fun a b=>a.key<b.key)) (d:l.length≤1000000) :
    Calls prog 265 #[sv,.int .u64 (k:Int),.func (.func 266) #[] #[]] w fun e w'=>Bd w w'∧∃ i fd,AtV k l i fd∧e=.returned (.tuple #[Bb (i:Nat),.bool fd]):=by
  refine (QhV.2.1.list Qqz (fun v:Vl=>QeA v.key k) l _ (fun _ _=>rfl) hN hl (by simp [Qmy]) (by simp) d (hs.imp fun h=>by grind [QeA]) fun i r p W hr hp _=>?_).mono ?_
  · rw [Bt,hp] at hr
    obtain rfl:_=r:=by simpa using hr
    exact Qkg p k W
  · rintro e w' ⟨hb,i,fd,h,rfl⟩
    exact ⟨hb,i,fd,by simpa [AtL,AtV,Qq8,Qpk,← Int.not_lt] using h,rfl⟩
theorem Qen (key:Nat):∀ (vs:List Vl) (ts:List Vt),Z4 key vs ts=true↔∃ (i:Nat) (v:Vl) (t:Vt),vs[i]?=some v∧ts[i]?=some t∧v.key=key∧t.is=true
  | [],ts=>by simp [Z4]
  | v :: vs,[]=>by simp [Z4]
  | v :: vs,t :: ts=>by
    rw [Z4,DV,BX,BS,Qen key vs ts]
    constructor
    · rintro (⟨h1,h2⟩ | ⟨i,a,b,h1,h2,h3,h4⟩)
      · exact ⟨0,v,t,rfl,rfl,h1,h2⟩
      · exact ⟨i+1,a,b,by simpa using h1,by simpa using h2,h3,h4⟩
    · rintro ⟨i,a,b,h1,h2,h3,h4⟩
      cases i with
      | zero =>
        obtain rfl:v=a:=by simpa using h1
        obtain rfl:t=b:=by simpa using h2
        exact .inl ⟨h3,h4⟩
      | succ i=>exact .inr ⟨i,a,b,by simpa using h1,by simpa using h2,h3,h4⟩
theorem QqD {key:Nat} {vs:List Vl} {t:Vt} (hs:vs.Pairwise (fun a b=>a.key<b.key)) (h:AtV key vs i true) (ht:ts[i]?=some t):Z4 key vs ts=t.is:=by
  obtain ⟨v,hv,hk⟩:=h.2.2.2.1 rfl;rw [Dj,Qen]
  constructor
  · rintro ⟨j,a,b,h1,h2,h3,h4⟩
    have:j=i:=by
      rcases Eh j i with hlt | rfl | hlt
      · have:=QkM hs hlt h1 hv;omega
      · rfl
      · have:=QkM hs hlt hv h1;omega
    obtain rfl:t=b:=by simp_all
    exact h4
  · grind
theorem Qmz {key:Nat} {vs:List Vl} (hs:vs.Pairwise (fun a b=>a.key<b.key)) (h:AtV key vs i false):Z4 key vs ts=false:=by
  cases hb:Z4 key vs ts with
  | false=>rfl
  | true =>
    obtain ⟨j,a,b,h1,_,h3,_⟩:=(Qen key vs ts).1 hb
    rcases Eh j i with hlt | rfl | hlt
    · have:=h.2.1 j a hlt h1;omega
    · have:=h.2.2.2.2 ⟨a,h1,h3⟩;cases this
    · obtain ⟨v,hv⟩:∃ v,vs[i]?=some v:=⟨vs[i]'(by have:=(Bm.1 h1).1;omega),Bk _⟩
      have h5:=h.2.2.1 i v (by omega) hv
      have h6:=QkM hs hlt hv h1;omega
def Qvt (f:FuncId):Prop:=∀ (t:List Vl) (s:Sg) (tv v:Value) (N:Nat) (w:World),N≤w.heap.size→Zw w N tv t→SgV w N v s→JB t=0→(∀ v∈t,v.ok)→JB s.vals=0→s.votes.length=s.vals.length →
  Calls prog f #[tv,v] w fun e w'=>e=.returned (.bool (QjD t s))∧Bd w w'
theorem QqE (s:Sg) (v:Value) (key N:Nat) (w:World) (hN:N≤w.heap.size) (hv:SgV w N v s) (hs:s.vals.Pairwise (fun a b=>a.key<b.key)) (h10:s.vals.length≤10) (D:s.votes.length=s.vals.length) :
    Calls prog 243 #[v,.int .u64 (key:Int)] w fun e w'=>e=.returned (.bool (Z4 key s.vals s.votes))∧Bd w w':=by
  obtain ⟨rv,vv,nv,lv,tv,rfl,h1,h2,h3,h4,h5⟩:=hv;obtain ⟨o1,c1,rfl,_⟩:=h1.shape;obtain ⟨o2,c2,rfl,_⟩:=h2.shape;obtain ⟨o3,c3,rfl,_⟩:=h3.shape;have HT:=hid h5;have HL:=hid h4;obtain ⟨o4,c4,rfl,_⟩:=h4.shape;obtain ⟨o5,c5,rfl,_⟩:=h5.shape;have HS:=hid hs;obtain ⟨w0,E⟩:∃ w0,w.alloc (.cells #[.string s.hd.chain,Bb s.hd.height,Bb s.hd.time,.slice o1 s.hd.root.length c1,.slice o2 s.hd.vals.length c2,.slice o3 s.hd.next.length c3,.slice o4 s.vals.length c4,.slice o5 s.votes.length c5] 37)=w0:=⟨_,rfl⟩;have m:=hid (show Bd w w0 by rw [← E];exact (Bi _ _).alloc (Bj _) _)
  have z:=hid (QiI E);have k6:=z.out.cell 6;have I:=hid (Qmj s.vals key _ N w0 (Bh hN m.out.size) (HL.out.below (m.out.mono hN)) hs (by omega))
  generalize hvs:s.vals=vs at *;generalize hts:s.votes=ts at *;generalize hn:vs.length=nv at *;generalize O:ts.length=n at *;subst D;have HN:=hid hn;have G:=hid O
  go_in
  go_wp2_with fail
  refine I.out.mono ?_;rintro e w1 ⟨C,i,fd,L,rfl⟩;have q:=hgo m C;have i7:=(z.out.below C z.out.lt).cell 7;have j:=hid L
  cases fd with
  | false =>
    have A:=hid (Qmz (ts:=ts) HS.out j.out);go_wp2;go_ret;exact ⟨by rw [A.out];first | done | rfl,q.out⟩
  | true =>
    obtain ⟨v,hv,hvk⟩:=j.out.2.2.2.1 rfl;have M:i<n:=by have:=(Bm.1 hv).1;rw [HN.out] at this;exact this
    obtain ⟨t,ht⟩:∃ t,ts[i]?=some t:=⟨ts[i]'(by rw [G.out];exact M),Bk _⟩
    have A:=hid (QqD HS.out j.out ht);obtain ⟨b,p,rfl,d⟩:=HT.out.spot (by omega)
    obtain ⟨hbN,a0,_,_⟩:=d i t ht;have f0:=(q.out.cell (p:=⟨b,p+i*3,none⟩) (by show b<_;omega)).trans a0
    go_wp2;go_ret;exact ⟨by rw [A.out];first | done | rfl,q.out⟩
theorem Qp8 (t:List Vl) (s:Sg) (k gs gt:Nat) (o:Option Addr) (c N:Nat) (w:World) (hN:N≤w.heap.size) (ht:Zw w N (.slice o t.length c) t) (x0 x1 x2 x3 x4 x5 x6 x7:Value) (hv:SgV w N (.agg #[x0,x1,x2,x3,x4,x5,x6,x7]) s) (hr:Row w gs 37 [x0,x1,x2,x3,x4,x5,x6,x7])
    (hc:w.cell? ⟨gt,0,none⟩=some (.slice o t.length c)) (hs:s.vals.Pairwise (fun a b=>a.key<b.key)) (q:s.vals.length≤10) (j:s.votes.length=s.vals.length) (v:Vl) (hk:t[k]?=some v) (htl:t.length≤10) :
    Calls prog 242 #[Bb (k:Int),.pointer (some ⟨gs,0,none⟩),.pointer (some ⟨gt,0,none⟩)] w fun e w'=>e=.returned (.bool (Z4 v.key s.vals s.votes))∧Bd w w':=by
  have hkl:=(Bm.1 hk).1;obtain ⟨b,p,rfl,d⟩:=ht.spot (by omega)
  obtain ⟨_,a0,_⟩:=d k v hk;obtain ⟨j0,j1,j2,j3,j4,j5,j6,j7⟩:=hr.eight;have HV:=hid (QqE s _ v.key N w.drew hN (hv.below (QY w 1 N)) hs q j);obtain ⟨rv,vv,nv,lv,tv,he,h1,h2,h3,h4,h5⟩:=hv;clear d ht hr hs h1 h2 h3 h4 h5 hk he j
  go_in
  go_wp2_with fail
  refine YU 6 (by kernel_rfl) (by kernel_rfl) ?_
  repeat still_step
  refine Cd ?_
  go_wp2_with fail
  refine HV.out.mono ?_;rintro e w2 ⟨rfl,z⟩;have m:=hid z;go_wp2;go_ret;exact ⟨rfl,(QY w 1 _).trans m.out⟩
theorem QvM: Qvt 216:=by
  intro t s tv v N w hN ht hv aB aA T j;have aD:=hid hv;have O:=hid ht;obtain ⟨v1,v2,v3,_⟩:=Ze aB;obtain ⟨_,u2,_,u4⟩:=Ze T;have aE:=hid u4;have S:=hid v3;obtain ⟨rv,vv,nv,lv,tsv,rfl,h1,h2,h3,h4,h5⟩:=hv;obtain ⟨o1,c1,rfl,_⟩:=h1.shape;obtain ⟨o2,c2,rfl,_⟩:=h2.shape;obtain ⟨o3,c3,rfl,_⟩:=h3.shape;obtain ⟨o4,c4,rfl,_⟩:=h4.shape;obtain ⟨o5,c5,rfl,_⟩:=h5.shape;obtain ⟨o,c,rfl,_⟩:=ht.shape;clear h1 h2 h3 h4 h5 ht u4 v3 aB T aA;obtain ⟨w0,I⟩:∃ w0,w.alloc (.cells #[.slice o t.length c] 34)=w0:=⟨_,rfl⟩;have z:=bof I;have E:Row w0 w.heap.size 34 [.slice o t.length c]:=by rw [← I];exact Row.new _ _ _
  have Y:w0.heap.size=w.heap.size+1:=by rw [← I];simp
  obtain ⟨w1,aC⟩:∃ w1,w0.alloc (.cells #[.string s.hd.chain,Bb s.hd.height,Bb s.hd.time,.slice o1 s.hd.root.length c1,.slice o2 s.hd.vals.length c2,.slice o3 s.hd.next.length c3,.slice o4 s.vals.length c4,.slice o5 s.votes.length c5] 37)=w1:=⟨_,rfl⟩;have A:=bof aC;have G:=E.below A E.lt;have L:=hid G;have M:=hid (show Row w1 (w.heap.size+1) 37 [.string s.hd.chain,Bb s.hd.height,Bb s.hd.time,.slice o1 s.hd.root.length c1,.slice o2 s.hd.vals.length c2,.slice o3 s.hd.next.length c3,.slice o4 s.vals.length c4,.slice o5 s.votes.length c5] by rw [← aC,← Y];exact Row.new _ _ _)
  have b:=hid (z.trans (A.mono z.size));have k0:=G.cell 0
  have q:=hid (QjE 242 #[.pointer (some ⟨w.heap.size+1,0,none⟩),.pointer (some ⟨w.heap.size,0,none⟩)] (fun _ _=>rfl) t (fun k=>match t[k]? with | some v=>Z4 v.key s.vals s.votes | none=>false) _ N w1 (Bh hN b.out.size) (O.out.below (b.out.mono hN)) v2 (fun v hv=>(S.out v hv).2) (fun k wr hk hb=>by
    obtain ⟨v,hv⟩:∃ v,t[k]?=some v:=⟨t[k],Bk hk⟩;have D:=b.out.trans (hb.mono b.out.size);have:=Qp8 t s k (w.heap.size+1) w.heap.size o c N wr (Bh hN D.size) (O.out.below (D.mono hN)) _ _ _ _ _ _ _ _ (aD.out.below (D.mono hN)) (M.out.below hb M.out.lt) ((L.out.below hb L.out.lt).cell 0) aE.out u2 j v hv v2;simp only [hv]
    exact this))
  rw [Qn2 s t 0 _ (fun i v hv=>by rw [Bq];simp only [hv])] at q
  have hle:=Ql2 s t;have hal:=Qgv t (fun v hv=>(S.out v hv).2)
  have d:=hid (show QjD t s=decide (Qa5 t<3*QeY s t) from rfl);clear z E A G j;generalize QeY s t=oo at *;generalize Qa5 t=aa at *
  by_cases h3:aa<3*oo
  · have e3:decide ((aa:Int)<3*(oo:Int))=true:=by simp;omega
    rw [BB h3] at d
    go_in
    go_wp2_with fail
    refine q.out.mono ?_;rintro e w2 ⟨rfl,C⟩;have m:=hgo b C;go_wp2;go_ret;exact ⟨by rw [d.out];first | done | rfl | (simp [e3];first | done | rfl),m.out⟩
  · have e3:decide ((aa:Int)<3*(oo:Int))=false:=by simp;omega
    rw [BC h3] at d
    go_in
    go_wp2_with fail
    refine q.out.mono ?_;rintro e w2 ⟨rfl,C⟩;have m:=hgo b C;go_wp2;go_ret;exact ⟨by rw [d.out];first | done | rfl | (simp [e3];first | done | rfl),m.out⟩
end Go.Proofs.YtnedafiokmjkkaaGreatDoor
