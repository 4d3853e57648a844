/-
  Pairs behind a slice value: two cells each. Pairs in a row that a call owns. Slices of rows of pairs, and appends of them onto what a call owns.
  Doings behind a slice value: three cells each. No function of the program is named here.
  What the document's Less, Half and Four answer. What the document's Wrong answers: what is wrong with pairs, and where.
  Rows of turns that a call owns; what the document's Way answers: the turns from the root to a place.
  Rows of lists of bytes, and of Bools, that a call owns: appended to one by one. No function of the program is named here. What slices.Reverse answers: a row that the call owns, turned round in its place; and whether a list has another length than a digest's (slices.ContainsFunc, slices.IndexFunc). What slices.Reverse makes of lists and Bools that a call owns; what slices.ContainsFunc answers: whether a list has another length than a digest's; what bytes.Equal answers.
-/
import Derived.Test.YtbgdpfeobklnhaaGreatDoorcvBookMath
import Derived.Test.YtbgdpfeobklnhaaGreatDoorcvMemB
import Derived.Test.YtbgdpfeobklnhaaGreatDoorcvWireBoth
import Derived.Laws.OwnMore
import Derived.Deep.AppendLies
import Derived.Deep.QuietTactic
import Derived.BigQuiet
import Derived.Deep.RegionWith
namespace Go.Proofs.YtbgdpfeobklnhaaGreatDoor
set_option maxRecDepth 1000000
set_option maxHeartbeats 8000000
open Go.RowKit
def Pr.fits (p:Pr):Prop:=p.key.length≤140737488351232∧p.val.length≤140737488351232
theorem Zw {w w':World} {base e size n:Nat} {v:Value} {xs:List Value} (h:w.ownsRow base e size v n xs) (hg:Below w.heap.size w w'):w'.ownsRow base e size v n xs:=by
 obtain ⟨h1,h2⟩:=h
 refine ⟨h1,?_⟩
 rcases h2 with h2 | ⟨g,cap,cur,h3,h4,h5,h6⟩
 ·exact .inl h2
 ·exact .inr ⟨g,cap,cur,h3,h4,(hg.block g (Array.getElem?_eq_some_iff.1 h5).1).trans h5,h6⟩
def Dg.fits (d:Dg):Prop:=d.key.length≤140737488351232∧d.val.length≤140737488351232
theorem Qfn (n:Nat) (w:World) (hn:n<1000000):Calls Tryz.prog 119 #[.int .i64 (n:Int)] w fun e w'=>e=.returned (.int .i64 (Qx n:Int))∧w'=w:=by
 go_enter Tryz.func119,Tryz.ntmps119
 go_wp2_with fail
 go_loopw [3] (fun i wr=>∃ k:Nat,0<k∧k<1000000∧i=.int .i64 (k:Int)∧wr=w∧Hid (Qx n=Qbg k n)) (fun i _=>n-(intOf i).toNat)
 case atStart=>exact ⟨1,by omega,by omega,rfl,rfl,rfl⟩
 case round =>
  obtain ⟨k,hk,hk',rfl,rfl,HT⟩:=hrel
  by_cases hle:n≤2*k
  ·have e1:decide ((n:Int)≤2*(k:Int))=true:=by simp;omega
   have HR:=hid (show Qx n=k by rw [HT.out,Qb0,if_pos (.inl hle)])
   go_wp2
   go_ret
   exact ⟨by rw [HR.out];rfl,rfl⟩
  ·have e1:decide ((n:Int)≤2*(k:Int))=false:=by simp;omega
   go_wp2_with fail
   exact ⟨⟨2*k,by omega,by omega,by go_num,trivial,by rw [HT.out,Qb0,if_neg (by omega)];exact hid rfl⟩,by simp [intOf];omega⟩
theorem Qhu:(Tryz.prog.info? 149).map (fun i=>(i.zero,i.size,i.bytes))=some (some (.agg #[.bool false,.int .i64 0,.int .i64 0]),3,24):=by kernel_rfl
def J1 (t:Tn):List Value:=[.bool t.right,.int .i64 (t.frm:Int),.int .i64 (t.n:Int)]
def Zk (w:World) (base:Nat) (v:Value) (ts:List Tn):Prop:=w.ownsRow base 149 3 v ts.length (ts.flatMap J1)
theorem Zk.nil (w:World) (base:Nat):Zk w base (.slice none 0 0) []:=World.ownsRow_nil w base 149 3
theorem Zk.below {w w':World} {base:Nat} {v:Value} {ts:List Tn} (h:Zk w base v ts) (hg:Below w.heap.size w w'):Zk w' base v ts:=Zw h hg
theorem Zk.shape {w:World} {base:Nat} {v:Value} {ts:List Tn} (h:Zk w base v ts):∃ oa cap,v=.slice oa ts.length cap∧ts.length≤cap:=by
 obtain ⟨_,h2⟩:=h
 rcases h2 with ⟨h3,h4⟩ | ⟨g,cap,cur,h3,_,_,h4,_⟩
 ·exact ⟨none,0,by rw [h4];exact h3,by omega⟩
 ·exact ⟨_,cap,h3,h4⟩
theorem Qf2 (ts:List Tn):∀ (i j:Nat) (t:Tn),ts[i]?=some t→j<3→(ts.flatMap J1)[i*3+j]?=(J1 t)[j]?:=by
 induction ts with
 | nil=>intro i j q h;simp at h
 | cons a r ih =>
  intro i j q h hj
  rw [List.flatMap_cons]
  have ha:(J1 a).length=3:=rfl
  cases i with
  | zero =>
   obtain rfl:a=q:=by simpa using h
   rw [Nat.zero_mul,Nat.zero_add,List.getElem?_append_left (by omega)]
  | succ i =>
   rw [List.getElem?_append_right (by omega),ha,show (i+1)*3+j-3=i*3+j by omega]
   exact ih i j q (by simpa using h) hj
theorem Zk.get {w:World} {base:Nat} {oa:Option Addr} {n cap:Nat} {ts:List Tn} (h:Zk w base (.slice oa n cap) ts) (hn:0<n):∃ g,oa=some ⟨g,0,none⟩∧base≤g∧g<w.heap.size∧∀ i t,ts[i]?=some t→w.cell? ⟨g,i*3,none⟩=some (.bool t.right)∧w.cell? ⟨g,i*3+1,none⟩=some (.int .i64 (t.frm:Int))∧w.cell? ⟨g,i*3+2,none⟩=some (.int .i64 (t.n:Int)):=by
 obtain ⟨h1,h2⟩:=h
 rcases h2 with ⟨h0,h0'⟩ | ⟨g,cap',cur,hv,hb,hg,hn',_,hc,hx⟩
 ·simp at h0;omega
 ·simp at hv
  refine ⟨g,hv.1,hb,(Array.getElem?_eq_some_iff.1 hg).1,fun i t ht=>?_⟩
  have hil:i<ts.length:=(List.getElem?_eq_some_iff.1 ht).1
  have cell:∀ j,j<3→w.cell? ⟨g,i*3+j,none⟩=(J1 t)[j]?:=fun j hj=>by
   rw [cell_of_row w g _ cur _ _ hg,← Qf2 ts i j t ht hj,← hx,List.getElem?_take,if_pos (by omega),Array.getElem?_toList]
  exact ⟨cell 0 (by omega),cell 1 (by omega),cell 2 (by omega)⟩
theorem Z9 {ops:Array Oper} {rest:List Oper} {o:Oper} {a:Act} {W:World} {Q:Exit→Act→World→Prop} (hgd:o.guard=none) (s x:Operand)
  (ho:o.op=.call { callee:=.builtin .append,args:=#[s,x],argTypes:=#[145,145] })
  (base:Nat) (v:Value) (ts:List Tn) (hs:a.eval s=v) (hown:Zk W base v ts) (t:Tn) (g:Nat)
  (hx:a.eval x=.slice (some ⟨g,0,none⟩) 1 1) (hr:Row W g 149 (J1 t)) (hl:ts.length≤1000000) (hbase:base≤W.heap.size)
  (h:∀ v' w',Zk w' base v' (ts ++ [t])→Below base W w'→wpList Tryz.prog ops Q rest (a.put o.dst v') w') :
  wpList Tryz.prog ops Q (o :: rest) a W:=by
 obtain ⟨i0,hi0,hz0,hz1,hz2⟩:=info_parts Qhu
 refine wpList_append_own _ hgd s x 145 ho base 149 i0 _ 3 24 Tryz.underlying145 hi0 hz0 hz1 hz2 rfl (by decide) v ts.length (ts.flatMap J1) hs hown ⟨g,0,none⟩ 1 1
  (J1 t) hx rfl ?_ ?_ (by unfold maxLen;omega) (by omega) hbase ?_
 ·intro j u hj
  have hadd:(⟨g,0,none⟩:Addr).add j=⟨g,j,none⟩:=by unfold Addr.add;split <;> simp_all
  rw [hadd,hr.cell]
  exact hj
 ·intro u hu
  simp [J1] at hu
  rcases hu with rfl | rfl | rfl <;> rfl
 ·intro v' w' h1 h2 _
  refine h v' w' ?_ ((Below.refl base W).grown h2 hbase (fun k hk=>(World.ownsRow.lt hown k hk).1))
  unfold Zk
  rw [List.length_append,List.flatMap_append]
  simpa using h1
theorem Y1 (n:Nat):∀ i a,(JW i n a).length≤n:=by
 induction n using Nat.strongRecOn with
 | _ n ih =>
  intro i a
  by_cases h1:1<n
  ·have hh:=Z3 n h1
   by_cases hik:i<Qx n
   ·rw [Qca i n a h1 hik,List.length_cons]
    have:=ih (Qx n) (by omega) i a
    omega
   ·rw [Qbm i n a h1 hik,List.length_cons]
    have:=ih (n-Qx n) (by omega) (i-Qx n) (a+Qx n)
    omega
  ·rw [Qdl i n a h1]
   exact Nat.zero_le _
theorem Qgn (i n:Nat) (w:World) (hi:i<n) (hn:n≤1000) :
  Calls Tryz.prog 105 #[.int .i64 (i:Int),.int .i64 (n:Int)] w fun e w'=>∃ v,e=.returned v∧Zk w' w.heap.size v (JW i n 0)∧Below w.heap.size w w':=by
 have HWL:=hid (Y1 n i 0)
 go_enter Tryz.func105,Tryz.ntmps105
 go_wp2_with fail
 go_loopw [0,1,5,6] (fun s0 s1 s5 s6 wr=>∃ (j m a:Nat) (ts:List Tn),j<m∧m≤n∧a+m≤n∧s0=.int .i64 (j:Int)∧s1=.int .i64 (m:Int)∧s6=.int .i64 (a:Int)∧Hid (Zk wr w.heap.size s5 ts∧Below w.heap.size w wr∧JW i n 0=ts ++ JW j m a)) (fun _ s1 _ _ _=>(intOf s1).toNat)
 case atStart=>exact ⟨i,n,0,[],hi,Nat.le_refl _,by omega,rfl,rfl,rfl,hid ⟨Zk.nil _ _,Below.refl _ _,rfl⟩⟩
 case round =>
  obtain ⟨j,m,a,ts,hjm,hmn,ham,rfl,rfl,rfl,HR⟩:=hrel
  have hszr:=HR.out.2.1.size
  have HTL:=hid (show ts.length≤n by
   have h1:=HWL.out
   rw [HR.out.2.2,List.length_append] at h1
   omega)
  by_cases h1:1<m
  ·have hh:=Z3 m h1
   obtain ⟨k,hk⟩:∃ k,Qx m=k:=⟨_,rfl⟩
   have HH:=hid (Qfn m wr (by omega))
   have HL:=hid (fun h=>Qca j m a h1 h)
   have HRT:=hid (fun h=>Qbm j m a h1 h)
   rw [hk] at HH hh HL HRT
   have e1:decide ((1:Int)<(m:Int))=true:=by simp;omega
   clear hk
   obtain ⟨oy,cy,rfl,hcy⟩:=HR.out.1.shape
   by_cases hjk:j<k
   ·have e2:decide ((j:Int)<(k:Int))=true:=by simp;omega
    have HEQ:=hid (show JW i n 0=(ts ++ [⟨false,a+k,m-k⟩]) ++ JW j k a by rw [HR.out.2.2,HL.out hjk];simp)
    obtain ⟨w1,hw1⟩:∃ w1,wr.alloc (.cells #[.bool false,.int .i64 ((a:Int)+(k:Int)),.int .i64 ((m:Int)-(k:Int))] 149)=w1:=⟨_,rfl⟩
    have hb1:=bof hw1
    have HROW:=hid (show Row w1 wr.heap.size 149 (J1 ⟨false,a+k,m-k⟩) by
     rw [← hw1]
     have e:J1 ⟨false,a+k,m-k⟩=[.bool false,.int .i64 ((a:Int)+(k:Int)),.int .i64 ((m:Int)-(k:Int))]:=by
      simp only [J1]
      rw [show ((a+k:Nat):Int)=(a:Int)+(k:Int) by omega,show ((m-k:Nat):Int)=(m:Int)-(k:Int) by omega]
     rw [e]
     exact Row.new _ _ _)
    have HO1:=hid (HR.out.1.below hb1)
    have HB1:=hid (HR.out.2.1.trans (hb1.mono hszr))
    have HW1:=hid hw1
    have HSZ1:=hid HB1.out.size
    clear hb1 hw1
    go_wp2_with fail
    refine HH.out.mono ?_
    rintro e w' ⟨rfl,hw'⟩
    obtain rfl:=hw'.symm
    go_wp2_with (at_builtin;rw [HW1.out];refine Z9 rfl (.tmp 15) (.tmp 23) rfl w.heap.size _ ts rfl HO1.out ⟨false,a+k,m-k⟩ wr.heap.size rfl HROW.out (by have:=HTL.out;omega) HSZ1.out ?_;intro v' w2 g1 g2;have G1:=hid g1;have G2:=hid (HB1.out.trans g2);clear g1 g2)
    go_roundw
    case rel=>exact ⟨j,k,a,ts ++ [⟨false,a+k,m-k⟩],hjk,by omega,by omega,rfl,rfl,rfl,hid ⟨G1.out,G2.out,HEQ.out⟩⟩
    case measure=>simp [intOf];omega
   ·have e2:decide ((j:Int)<(k:Int))=false:=by simp;omega
    have HEQ:=hid (show JW i n 0=(ts ++ [⟨true,a,k⟩]) ++ JW (j-k) (m-k) (a+k) by rw [HR.out.2.2,HRT.out hjk];simp)
    obtain ⟨w1,hw1⟩:∃ w1,wr.alloc (.cells #[.bool true,.int .i64 (a:Int),.int .i64 (k:Int)] 149)=w1:=⟨_,rfl⟩
    have hb1:=bof hw1
    have HROW:=hid (show Row w1 wr.heap.size 149 (J1 ⟨true,a,k⟩) by rw [← hw1];exact Row.new _ _ _)
    have HO1:=hid (HR.out.1.below hb1)
    have HB1:=hid (HR.out.2.1.trans (hb1.mono hszr))
    have HW1:=hid hw1
    have HSZ1:=hid HB1.out.size
    clear hb1 hw1
    go_wp2_with fail
    refine HH.out.mono ?_
    rintro e w' ⟨rfl,hw'⟩
    obtain rfl:=hw'.symm
    go_wp2_with (at_builtin;rw [HW1.out];refine Z9 rfl (.tmp 26) (.tmp 30) rfl w.heap.size _ ts rfl HO1.out ⟨true,a,k⟩ wr.heap.size rfl HROW.out (by have:=HTL.out;omega) HSZ1.out ?_;intro v' w2 g1 g2;have G1:=hid g1;have G2:=hid (HB1.out.trans g2);clear g1 g2)
    go_roundw
    case rel=>exact ⟨j-k,m-k,a+k,ts ++ [⟨true,a,k⟩],by omega,by omega,by omega,by go_num,by go_num,by go_num,hid ⟨G1.out,G2.out,HEQ.out⟩⟩
    case measure=>simp [intOf];omega
  ·have e1:decide ((1:Int)<(m:Int))=false:=by simp;omega
   have HEQ:=hid (show JW i n 0=ts by rw [HR.out.2.2,Qdl j m a h1,List.append_nil])
   go_wp2
   go_ret
   exact ⟨_,rfl,by rw [HEQ.out];exact HR.out.1,HR.out.2.1⟩
def JG (t:TypeId) (w w':World):Prop:=∀ (k:Nat) (cs:Array Value) (t':TypeId) (fr:Nat×Nat),w.heap[k]?=some (.cells cs t' fr)→t'≠t→w'.heap[k]?=w.heap[k]?
theorem JG.refl (t:TypeId) (w:World):JG t w w:=fun _ _ _ _ _ _=>rfl
theorem JG.trans {t:TypeId} {w w1 w2:World} (h:JG t w w1) (k:JG t w1 w2):JG t w w2:=fun i cs t' fr hi ht=>by
 have h1:=h i cs t' fr hi ht
 exact (k i cs t' fr (h1.trans hi) ht).trans h1
theorem JG.row {t:TypeId} {w w':World} (h:JG t w w') {g:Nat} {t':TypeId} {cs:List Value} (hr:Row w g t' cs) (ht:t'≠t):Row w' g t' cs:=by
 unfold Row at hr ⊢
 rw [h g _ _ _ hr ht]
 exact hr
theorem JG.owns {t:TypeId} {w w':World} (h:JG t w w') {base e n:Nat} {v:Value} {xs:List Value} (ho:w.ownsRow base e 1 v n xs) (ht:e≠t):w'.ownsRow base e 1 v n xs:=by
 obtain ⟨h1,h2⟩:=ho
 refine ⟨h1,?_⟩
 rcases h2 with h2 | ⟨g,cap,cur,h3,h4,h5,h6⟩
 ·exact .inl h2
 ·exact .inr ⟨g,cap,cur,h3,h4,(h g _ _ _ h5 ht).trans h5,h6⟩
theorem Qhw {w:World} {g:Nat} {t:TypeId} {cs:List Value} (hr:Row w g t cs) (i:Nat) (x:Value):JG t w (w.setCell ⟨g,i,none⟩ x):=fun k cs' t' fr hk ht=>by
 refine Below.heap_setCell w ⟨g,i,none⟩ x k ?_
 rintro rfl
 unfold Row at hr
 rw [hr] at hk
 simp at hk
 exact ht hk.2.1.symm
theorem ZF {w w':World} {base t n:Nat} {v:Value} {xs:List Value} (ho:w.ownsRow base t 1 v n xs) (hg:w.grownBy w' v.ownBlock):JG t w w':=fun k cs t' fr hk ht=>by
 refine hg.block k (Array.getElem?_eq_some_iff.1 hk).1 ?_
 intro he
 rcases ho.2 with ⟨rfl,_⟩ | ⟨g,c,cur,rfl,_,h5,_⟩
 ·simp [Value.ownBlock] at he
 ·obtain rfl:k=g:=by simpa [Value.ownBlock] using he
  rw [h5] at hk
  simp at hk
  exact ht hk.2.1.symm
structure LV where
 v:Value
 l:List (BitVec 8)
def YT (w:World) (base:Nat) (v:Value) (ls:List (List (BitVec 8))):Prop :=
 ∃ ys:List LV,ys.map (·.l)=ls∧w.ownsRow base 29 1 v ys.length (ys.map (·.v))∧∀ y∈ys,Qq w base y.v y.l
theorem YT.nil (w:World) (base:Nat):YT w base (.slice none 0 0) []:=⟨[],rfl,World.ownsRow_nil w base 29 1,fun y hy=>by cases hy⟩
theorem YT.below {w w':World} {base:Nat} {v:Value} {ls:List (List (BitVec 8))} (h:YT w base v ls) (hg:Below w.heap.size w w'):YT w' base v ls:=by
 obtain ⟨ys,h1,h2,h3⟩:=h
 exact ⟨ys,h1,Zw h2 hg,fun y hy=>(h3 y hy).below hg⟩
theorem YT.keep {t:TypeId} {w w':World} {base:Nat} {v:Value} {ls:List (List (BitVec 8))} (h:YT w base v ls) (hg:JG t w w') (ht:29≠t) (ht':5≠t):YT w' base v ls:=by
 obtain ⟨ys,h1,h2,h3⟩:=h
 exact ⟨ys,h1,hg.owns h2 ht,fun y hy=>hg.owns (h3 y hy) ht'⟩
theorem YT.mono {w:World} {base base':Nat} {v:Value} {ls:List (List (BitVec 8))} (h:YT w base v ls) (hb:base'≤base):YT w base' v ls:=by
 obtain ⟨ys,h1,⟨h2,h2'⟩,h3⟩:=h
 refine ⟨ys,h1,⟨h2,?_⟩,fun y hy=>(h3 y hy).mono hb⟩
 rcases h2' with h | ⟨g,cap,cur,k1,k2,k3⟩
 ·exact .inl h
 ·exact .inr ⟨g,cap,cur,k1,Nat.le_trans hb k2,k3⟩
theorem YT.shape {w:World} {base:Nat} {v:Value} {ls:List (List (BitVec 8))} (h:YT w base v ls):∃ oa cap,v=.slice oa ls.length cap∧ls.length≤cap:=by
 obtain ⟨ys,rfl,⟨_,h2⟩,_⟩:=h
 rcases h2 with ⟨h3,h4⟩ | ⟨g,cap,cur,h3,_,_,h4,_⟩
 ·exact ⟨none,0,by rw [List.length_map,h4];exact h3,by rw [List.length_map];omega⟩
 ·exact ⟨_,cap,by rw [List.length_map];exact h3,by rw [List.length_map];exact h4⟩
theorem QeY:(Tryz.prog.info? 29).map (fun i=>(i.zero,i.size,i.bytes))=some (some (.slice none 0 0),1,24):=by kernel_rfl
theorem Qq.one {w:World} {base:Nat} {v:Value} {l:List (BitVec 8)} (h:Qq w base v l):v.oneCell'=true:=by
 obtain ⟨oa,cap,rfl,_⟩:=h.shape
 rfl
theorem QfI {o:Oper} {a:Act} {w:World} {K:Act→World→Prop} {Q:Exit→Act→World→Prop} (s x:Operand)
  (ho:o.op=.call { callee:=.builtin .append,args:=#[s,x],argTypes:=#[30,30] })
  (base:Nat) (v:Value) (ls:List (List (BitVec 8))) (hs:a.eval s=v) (hown:YT w base v ls) (g:Nat) (y:Value) (l:List (BitVec 8)) (hx:a.eval x=.slice (some ⟨g,0,none⟩) 1 1)
  (hr:Row w g 29 [y]) (hy:Qq w base y l) (hl:ls.length≤1000000) (hbase:base≤w.heap.size)
  (h:∀ v' w',YT w' base v' (ls ++ [l])→Below base w w'→JG 29 w w'→K (a.put o.dst v') w'):o.wp Tryz.prog a w K Q:=by
 obtain ⟨i0,hi0,hz0,hz1,hz2⟩:=info_parts QeY
 obtain ⟨ys,rfl,hrow,hys⟩:=hown
 rw [List.length_map] at hl
 refine wp_append_own w s x 30 ho base 29 i0 (.slice none 0 0) 1 24 Tryz.underlying30 hi0 hz0 hz1 hz2 rfl (by decide) v ys.length (ys.map (·.v)) hs hrow ⟨g,0,none⟩ 1 1 [y] hx rfl ?_ ?_ (by unfold maxLen;omega) (by omega) hbase ?_
 ·intro j u hj
  have hadd:(⟨g,0,none⟩:Addr).add j=⟨g,j,none⟩:=by unfold Addr.add;split <;> simp_all
  rw [hadd,hr.cell]
  exact hj
 ·intro u hu
  obtain rfl:u=y:=by simpa using hu
  exact hy.one
 ·intro v' w' h1 h2 _
  have hk:JG 29 w w':=ZF hrow h2
  refine h v' w' ⟨ys ++ [⟨y,l⟩],by simp,?_,fun q hq=>?_⟩ ((Below.refl base w).grown h2 hbase (fun k hk=>(World.ownsRow.lt hrow k hk).1)) hk
  ·rw [List.length_append,List.map_append]
   exact h1
  ·rcases List.mem_append.1 hq with hq | hq
   ·exact hk.owns (hys q hq) (by decide)
   ·obtain rfl:q=⟨y,l⟩:=by simpa using hq
    exact hk.owns hy (by decide)
theorem Y6 {ops:Array Oper} {rest:List Oper} {o:Oper} {a:Act} {w:World} {Q:Exit→Act→World→Prop} (hgd:o.guard=none) (s x:Operand)
  (ho:o.op=.call { callee:=.builtin .append,args:=#[s,x],argTypes:=#[30,30] })
  (base:Nat) (v:Value) (ls:List (List (BitVec 8))) (hs:a.eval s=v) (hown:YT w base v ls) (g:Nat) (y:Value) (l:List (BitVec 8)) (hx:a.eval x=.slice (some ⟨g,0,none⟩) 1 1)
  (hr:Row w g 29 [y]) (hy:Qq w base y l) (hl:ls.length≤1000000) (hbase:base≤w.heap.size)
  (h:∀ v' w',YT w' base v' (ls ++ [l])→Below base w w'→JG 29 w w'→wpList Tryz.prog ops Q rest (a.put o.dst v') w'):wpList Tryz.prog ops Q (o :: rest) a w :=
 wpList_plain hgd fun _ hK=>QfI s x ho base v ls hs hown g y l hx hr hy hl hbase fun v' w' h1 h2 h3=>hK _ _ (h v' w' h1 h2 h3)
def YU (w:World) (base:Nat) (v:Value) (bs:List Bool):Prop:=w.ownsRow base 4 1 v bs.length (bs.map Value.bool)
theorem YU.nil (w:World) (base:Nat):YU w base (.slice none 0 0) []:=World.ownsRow_nil w base 4 1
theorem YU.below {w w':World} {base:Nat} {v:Value} {bs:List Bool} (h:YU w base v bs) (hg:Below w.heap.size w w'):YU w' base v bs:=Zw h hg
theorem YU.shape {w:World} {base:Nat} {v:Value} {bs:List Bool} (h:YU w base v bs):∃ oa cap,v=.slice oa bs.length cap∧bs.length≤cap:=by
 obtain ⟨_,h2⟩:=h
 rcases h2 with ⟨h3,h4⟩ | ⟨g,cap,cur,h3,_,_,h4,_⟩
 ·exact ⟨none,0,by rw [h4];exact h3,by omega⟩
 ·exact ⟨_,cap,h3,h4⟩
theorem YU.get {w:World} {base:Nat} {oa:Option Addr} {n cap:Nat} {bs:List Bool} (h:YU w base (.slice oa n cap) bs) (hn:0<n):∃ g,oa=some ⟨g,0,none⟩∧base≤g∧g<w.heap.size∧∀ (i:Nat) b,bs[i]?=some b→w.cell? ⟨g,i,none⟩=some (.bool b):=by
 obtain ⟨h1,h2⟩:=h
 rcases h2 with ⟨h0,h0'⟩ | ⟨g,cap',cur,hv,hb,hg,hn',_,hc,hx⟩
 ·simp at h0;omega
 ·simp at hv
  refine ⟨g,hv.1,hb,(Array.getElem?_eq_some_iff.1 hg).1,fun i b hb=>?_⟩
  have hil:i<bs.length:=(List.getElem?_eq_some_iff.1 hb).1
  rw [cell_of_row w g _ cur _ _ hg,← Array.getElem?_toList]
  have e:=congrArg (fun l:List Value=>l[i]?) hx
  simp only [List.getElem?_take,Nat.mul_one] at e
  rw [if_pos hil] at e
  rw [e,List.getElem?_map,hb]
  rfl
theorem Qf4:(Tryz.prog.info? 4).map (fun i=>(i.zero,i.size,i.bytes))=some (some (.bool false),1,1):=by kernel_rfl
theorem QfJ {o:Oper} {a:Act} {w:World} {K:Act→World→Prop} {Q:Exit→Act→World→Prop} (s x:Operand)
  (ho:o.op=.call { callee:=.builtin .append,args:=#[s,x],argTypes:=#[160,160] })
  (base:Nat) (v:Value) (bs:List Bool) (hs:a.eval s=v) (hown:YU w base v bs) (g:Nat) (b:Bool) (hx:a.eval x=.slice (some ⟨g,0,none⟩) 1 1)
  (hr:Row w g 4 [.bool b]) (hl:bs.length≤1000000) (hbase:base≤w.heap.size)
  (h:∀ v' w',YU w' base v' (bs ++ [b])→Below base w w'→JG 4 w w'→K (a.put o.dst v') w'):o.wp Tryz.prog a w K Q:=by
 obtain ⟨i0,hi0,hz0,hz1,hz2⟩:=info_parts Qf4
 refine wp_append_own w s x 160 ho base 4 i0 (.bool false) 1 1 Tryz.underlying160 hi0 hz0 hz1 hz2 rfl (by decide) v bs.length (bs.map Value.bool) hs hown ⟨g,0,none⟩ 1 1 [.bool b] hx rfl ?_ ?_ (by unfold maxLen;omega) (by omega) hbase ?_
 ·intro j u hj
  have hadd:(⟨g,0,none⟩:Addr).add j=⟨g,j,none⟩:=by unfold Addr.add;split <;> simp_all
  rw [hadd,hr.cell]
  exact hj
 ·intro u hu
  obtain rfl:u=.bool b:=by simpa using hu
  rfl
 ·intro v' w' h1 h2 _
  refine h v' w' ?_ ((Below.refl base w).grown h2 hbase (fun k hk=>(World.ownsRow.lt hown k hk).1)) (ZF hown h2)
  unfold YU
  rw [List.length_append,List.map_append]
  exact h1
theorem Qcu {ops:Array Oper} {rest:List Oper} {o:Oper} {a:Act} {w:World} {Q:Exit→Act→World→Prop} (hgd:o.guard=none) (s x:Operand)
  (ho:o.op=.call { callee:=.builtin .append,args:=#[s,x],argTypes:=#[160,160] })
  (base:Nat) (v:Value) (bs:List Bool) (hs:a.eval s=v) (hown:YU w base v bs) (g:Nat) (b:Bool) (hx:a.eval x=.slice (some ⟨g,0,none⟩) 1 1)
  (hr:Row w g 4 [.bool b]) (hl:bs.length≤1000000) (hbase:base≤w.heap.size)
  (h:∀ v' w',YU w' base v' (bs ++ [b])→Below base w w'→JG 4 w w'→wpList Tryz.prog ops Q rest (a.put o.dst v') w'):wpList Tryz.prog ops Q (o :: rest) a w :=
 wpList_plain hgd fun _ hK=>QfJ s x ho base v bs hs hown g b hx hr hl hbase fun v' w' h1 h2 h3=>hK _ _ (h v' w' h1 h2 h3)
def Rv (cs c:List Value) (n i:Nat):Prop:=c.length=cs.length∧∀ t,t<n→c[t]?=if t<i∨n<t+1+i then cs[n-1-t]? else cs[t]?
theorem Rv.start (cs:List Value) (n:Nat):Rv cs cs n 0:=⟨rfl,fun t ht=>by rw [if_neg (by omega)]⟩
theorem Rv.step {cs c:List Value} {n i j:Nat} (h:Rv cs c n i) (hij:i+j+1=n) (hlt:i<j) (hn:n≤cs.length) {xi xj:Value} (hi:c[i]?=some xi) (hj:c[j]?=some xj):Rv cs ((c.set i xj).set j xi) n (i+1):=by
 obtain ⟨h1,h2⟩:=h
 have ei:=h2 i (by omega)
 have ej:=h2 j (by omega)
 rw [if_neg (by omega),hi] at ei
 rw [if_neg (by omega),hj] at ej
 refine ⟨by simp [h1],fun t ht=>?_⟩
 rw [List.getElem?_set,List.getElem?_set]
 by_cases e1:j=t
 ·subst e1
  rw [if_pos rfl,if_pos (by simp;omega),if_pos (by omega),show n-1-j=i by omega]
  exact ei
 ·rw [if_neg e1]
  by_cases e2:i=t
  ·subst e2
   rw [if_pos rfl,if_pos (by omega),if_pos (by omega),show n-1-i=j by omega]
   exact ej
  ·rw [if_neg e2,h2 t ht]
   by_cases e3:t<i∨n<t+1+i
   ·rw [if_pos e3,if_pos (by omega)]
   ·rw [if_neg e3,if_neg (by omega)]
theorem Rv.at {cs c:List Value} {n i t:Nat} (h:Rv cs c n i) (h1:i≤t) (h2:t+i<n):c[t]?=cs[t]?:=by
 rw [h.2 t (by omega),if_neg (by omega)]
theorem Rv.stop {cs c:List Value} {n i:Nat} (h:Rv cs c n i) (hi:n≤i+i+1) (hn:n≤cs.length):c.take n=(cs.take n).reverse:=by
 obtain ⟨h1,h2⟩:=h
 refine List.ext_getElem? fun t=>?_
 by_cases ht:t<n
 ·have e0:(cs.take n).reverse[t]?=cs[n-1-t]?:=by
   rw [List.getElem?_reverse (by simp;omega),List.length_take,Nat.min_eq_left hn,List.getElem?_take,if_pos (by omega)]
  rw [List.getElem?_take,if_pos ht,h2 t ht,e0]
  by_cases e:t<i∨n<t+1+i
  ·rw [if_pos e]
  ·rw [if_neg e,show n-1-t=t by omega]
 ·rw [List.getElem?_eq_none (by simp;omega),List.getElem?_eq_none (by simp;omega)]
theorem QhR (oa:Option Addr) (cap:Nat) (w:World):Calls Tryz.prog 134 #[.slice oa 0 cap] w fun e w'=>e=.returned (.tuple #[])∧w'=w:=by
 go_enter Tryz.func134,Tryz.ntmps134
 go_wp2_with fail
 go_loopw [2,3] (fun s2 s3 wr=>s2=.int .i64 0∧s3=.int .i64 (-1)∧wr=w) (fun _ _ _=>0)
 case atStart=>exact ⟨rfl,rfl,rfl⟩
 case round =>
  obtain ⟨rfl,rfl,rfl⟩:=hrel
  go_wp2
  go_end0
  exact ⟨rfl,rfl⟩
theorem QiP (n g cap:Nat) (cs:List Value) (w:World) (hn:1≤n) (hr:Row w g 29 cs) (hcl:n≤cs.length) (hb:n≤1000000) (hsh:∀ (t:Nat) x,t<n→cs[t]?=some x→∃ oa m k,x=.slice oa m k) :
  Calls Tryz.prog 134 #[.slice (some ⟨g,0,none⟩) n cap] w fun e w'=>e=.returned (.tuple #[])∧w.grownBy w' (some g)∧∃ c,Row w' g 29 c∧c.length=cs.length∧c.take n=(cs.take n).reverse:=by
 have HR0:=hid hr
 clear hr
 go_enter Tryz.func134,Tryz.ntmps134
 go_wp2_with fail
 go_loopw [2,3] (fun s2 s3 wr=>∃ i j:Nat,s2=.int .i64 (i:Int)∧s3=.int .i64 (j:Int)∧i+j+1=n∧i≤j+1∧Hid (w.grownBy wr (some g)∧∃ c,Row wr g 29 c∧Rv cs c n i)) (fun s2 _ _=>n-(intOf s2).toNat)
 case atStart=>exact ⟨0,n-1,rfl,by go_num,by omega,by omega,hid ⟨Yc _ _,cs,HR0.out,Rv.start _ _⟩⟩
 case round =>
  obtain ⟨i,j,rfl,rfl,hij,hle,HI⟩:=hrel
  by_cases hlt:i<j
  ·have hlt':(i:Int)<(j:Int):=by omega
   obtain ⟨hg,c,hrow,hrv⟩:=HI.out
   have hcl2:=hrv.1
   obtain ⟨xi,hxi⟩:∃ x,c[i]?=some x:=⟨c[i]'(by omega),List.getElem?_eq_getElem _⟩
   obtain ⟨xj,hxj⟩:∃ x,c[j]?=some x:=⟨c[j]'(by omega),List.getElem?_eq_getElem _⟩
   obtain ⟨oi,mi,ki,rfl⟩:=hsh i xi (by omega) ((hrv.at (Nat.le_refl _) (by omega)).symm.trans hxi)
   obtain ⟨oj,mj,kj,rfl⟩:=hsh j xj (by omega) ((hrv.at (by omega) (by omega)).symm.trans hxj)
   have d0:=(hrow.cell i).trans hxi
   have d1:=(hrow.cell j).trans hxj
   have f0:=hrow.frozen i
   have f1:=hrow.frozen j
   have f2:=(hrow.set i (.slice oj mj kj)).frozen j
   have hin:(i:Int)<(n:Int):=by omega
   have hjn:(j:Int)<(n:Int):=by omega
   have HN:=hid (show w.grownBy (((wr.setCell ⟨g,i,none⟩ (.slice oj mj kj)).setCell ⟨g,j,none⟩ (.slice oi mi ki)).drew) (some g)∧∃ c,Row (((wr.setCell ⟨g,i,none⟩ (.slice oj mj kj)).setCell ⟨g,j,none⟩ (.slice oi mi ki)).drew) g 29 c∧Rv cs c n (i+1) from
    ⟨Yb (Qj hg (Qj (QX _ _ _ _) (QX _ _ _ _))) ,_,((hrow.set i (.slice oj mj kj)).set j (.slice oi mi ki)).drew,hrv.step hij hlt hcl hxi hxj⟩)
   have HSH:=hid hsh
   clear hg hrow hrv HI hxi hxj hsh
   go_wp2_with fail
   go_region
   go_wp2_with fail
   exact ⟨⟨i+1,j-1,by go_num,by go_num,by omega,by omega,HN⟩,by simp [intOf];omega⟩
  ·have hge:decide ((i:Int)<(j:Int))=false:=by simp;omega
   go_wp2
   go_end0
   obtain ⟨hg,c,hrow,hrv⟩:=HI.out
   exact ⟨rfl,hg,c,hrow,hrv.1,hrv.stop (by omega) hcl⟩
theorem QhS (oa:Option Addr) (cap:Nat) (w:World):Calls Tryz.prog 143 #[.slice oa 0 cap] w fun e w'=>e=.returned (.tuple #[])∧w'=w:=by
 go_enter Tryz.func143,Tryz.ntmps143
 go_wp2_with fail
 go_loopw [2,3] (fun s2 s3 wr=>s2=.int .i64 0∧s3=.int .i64 (-1)∧wr=w) (fun _ _ _=>0)
 case atStart=>exact ⟨rfl,rfl,rfl⟩
 case round =>
  obtain ⟨rfl,rfl,rfl⟩:=hrel
  go_wp2
  go_end0
  exact ⟨rfl,rfl⟩
theorem QiR (n g cap:Nat) (cs:List Value) (w:World) (hn:1≤n) (hr:Row w g 4 cs) (hcl:n≤cs.length) (hb:n≤1000000) (hsh:∀ (t:Nat) x,t<n→cs[t]?=some x→∃ b,x=.bool b) :
  Calls Tryz.prog 143 #[.slice (some ⟨g,0,none⟩) n cap] w fun e w'=>e=.returned (.tuple #[])∧w.grownBy w' (some g)∧∃ c,Row w' g 4 c∧c.length=cs.length∧c.take n=(cs.take n).reverse:=by
 have HR0:=hid hr
 clear hr
 go_enter Tryz.func143,Tryz.ntmps143
 go_wp2_with fail
 go_loopw [2,3] (fun s2 s3 wr=>∃ i j:Nat,s2=.int .i64 (i:Int)∧s3=.int .i64 (j:Int)∧i+j+1=n∧i≤j+1∧Hid (w.grownBy wr (some g)∧∃ c,Row wr g 4 c∧Rv cs c n i)) (fun s2 _ _=>n-(intOf s2).toNat)
 case atStart=>exact ⟨0,n-1,rfl,by go_num,by omega,by omega,hid ⟨Yc _ _,cs,HR0.out,Rv.start _ _⟩⟩
 case round =>
  obtain ⟨i,j,rfl,rfl,hij,hle,HI⟩:=hrel
  by_cases hlt:i<j
  ·have hlt':(i:Int)<(j:Int):=by omega
   obtain ⟨hg,c,hrow,hrv⟩:=HI.out
   have hcl2:=hrv.1
   obtain ⟨xi,hxi⟩:∃ x,c[i]?=some x:=⟨c[i]'(by omega),List.getElem?_eq_getElem _⟩
   obtain ⟨xj,hxj⟩:∃ x,c[j]?=some x:=⟨c[j]'(by omega),List.getElem?_eq_getElem _⟩
   obtain ⟨bi,rfl⟩:=hsh i xi (by omega) ((hrv.at (Nat.le_refl _) (by omega)).symm.trans hxi)
   obtain ⟨bj,rfl⟩:=hsh j xj (by omega) ((hrv.at (by omega) (by omega)).symm.trans hxj)
   have d0:=(hrow.cell i).trans hxi
   have d1:=(hrow.cell j).trans hxj
   have f0:=hrow.frozen i
   have f1:=hrow.frozen j
   have f2:=(hrow.set i (.bool bj)).frozen j
   have hin:(i:Int)<(n:Int):=by omega
   have hjn:(j:Int)<(n:Int):=by omega
   have HN:=hid (show w.grownBy (((wr.setCell ⟨g,i,none⟩ (.bool bj)).setCell ⟨g,j,none⟩ (.bool bi)).drew) (some g)∧∃ c,Row (((wr.setCell ⟨g,i,none⟩ (.bool bj)).setCell ⟨g,j,none⟩ (.bool bi)).drew) g 4 c∧Rv cs c n (i+1) from
    ⟨Yb (Qj hg (Qj (QX _ _ _ _) (QX _ _ _ _))) ,_,((hrow.set i (.bool bj)).set j (.bool bi)).drew,hrv.step hij hlt hcl hxi hxj⟩)
   have HSH:=hid hsh
   clear hg hrow hrv HI hxi hxj hsh
   go_wp2_with fail
   go_region
   go_wp2_with fail
   exact ⟨⟨i+1,j-1,by go_num,by go_num,by omega,by omega,HN⟩,by simp [intOf];omega⟩
  ·have hge:decide ((i:Int)<(j:Int))=false:=by simp;omega
   go_wp2
   go_end0
   obtain ⟨hg,c,hrow,hrv⟩:=HI.out
   exact ⟨rfl,hg,c,hrow,hrv.1,hrv.stop (by omega) hcl⟩
theorem QiO (ls:List (List (BitVec 8))) (v:Value) (base:Nat) (w:World) (h:YT w base v ls) (hb:base≤w.heap.size) (hl:ls.length≤1000000) :
  Calls Tryz.prog 134 #[v] w fun e w'=>e=.returned (.tuple #[])∧YT w' base v ls.reverse∧Below base w w'∧JG 29 w w':=by
 obtain ⟨ys,rfl,hrow,hys⟩:=h
 rw [List.length_map] at hl
 obtain ⟨h1,h2⟩:=id hrow
 by_cases h0:ys.length=0
 ·obtain rfl:=List.length_eq_zero_iff.1 h0
  obtain ⟨oa,cap,rfl⟩:∃ oa cap,v=.slice oa 0 cap:=by
   rcases h2 with ⟨h3,_⟩ | ⟨g,cap,cur,h3,_⟩
   ·exact ⟨none,0,h3⟩
   ·exact ⟨_,cap,h3⟩
  refine (QhR oa cap w).mono ?_
  rintro e w' ⟨rfl,rfl⟩
  exact ⟨rfl,⟨[],rfl,hrow,hys⟩,Below.refl _ _,JG.refl _ _⟩
 ·rcases h2 with ⟨_,h0'⟩ | ⟨g,cap,cur,rfl,hbg,hg,hn,hm,hc,hx⟩
  ·omega
  ·have hr:Row w g 29 cur.toList:=by unfold Row;simpa using hg
   have hx':cur.toList.take ys.length=ys.map (·.v):=by simpa using hx
   have hcl:ys.length≤cur.toList.length:=by simp;omega
   refine (QiP ys.length g cap cur.toList w (by omega) hr hcl hl (fun t x ht hxt=>?_)).mono ?_
   ·have e:=congrArg (fun l:List Value=>l[t]?) hx'
    simp only [List.getElem?_take,if_pos ht,List.getElem?_map] at e
    rw [hxt] at e
    obtain ⟨y,hy,rfl⟩:∃ y,ys[t]?=some y∧y.v=x:=by
     cases hyt:ys[t]? with
     | none=>rw [hyt] at e;simp at e
     | some y=>rw [hyt] at e;exact ⟨y,rfl,by simpa using e.symm⟩
    obtain ⟨oa,c,hs,_⟩:=(hys y (List.mem_of_getElem? hy)).shape
    exact ⟨oa,_,c,hs⟩
   ·rintro e w' ⟨rfl,hgr,c,hr',hlen,htk⟩
    have hk:JG 29 w w':=ZF (v:=.slice (some ⟨g,0,none⟩) ys.length cap) hrow (by simpa [Value.ownBlock] using hgr)
    refine ⟨rfl,⟨ys.reverse,by rw [List.map_reverse],⟨by simp,.inr ⟨g,cap,c.toArray,by simp,hbg,hr',by simpa using hn,hm,by simp at hlen ⊢;omega,?_⟩⟩,fun y hy=>hk.owns (hys y (by simpa using hy)) (by decide)⟩,
     (Below.refl base w).grown hgr hb (fun k hk=>by obtain rfl:=Option.some.inj hk;exact hbg),hk⟩
    simpa [hx'] using htk
theorem QiQ (bs:List Bool) (v:Value) (base:Nat) (w:World) (h:YU w base v bs) (hb:base≤w.heap.size) (hl:bs.length≤1000000) :
  Calls Tryz.prog 143 #[v] w fun e w'=>e=.returned (.tuple #[])∧YU w' base v bs.reverse∧Below base w w'∧JG 4 w w':=by
 have hrow:=h
 obtain ⟨h1,h2⟩:=h
 by_cases h0:bs.length=0
 ·obtain rfl:=List.length_eq_zero_iff.1 h0
  obtain ⟨oa,cap,rfl⟩:∃ oa cap,v=.slice oa 0 cap:=by
   rcases h2 with ⟨h3,_⟩ | ⟨g,cap,cur,h3,_⟩
   ·exact ⟨none,0,h3⟩
   ·exact ⟨_,cap,h3⟩
  refine (QhS oa cap w).mono ?_
  rintro e w' ⟨rfl,rfl⟩
  exact ⟨rfl,hrow,Below.refl _ _,JG.refl _ _⟩
 ·rcases h2 with ⟨_,h0'⟩ | ⟨g,cap,cur,rfl,hbg,hg,hn,hm,hc,hx⟩
  ·omega
  ·have hr:Row w g 4 cur.toList:=by unfold Row;simpa using hg
   have hx':cur.toList.take bs.length=bs.map Value.bool:=by simpa using hx
   have hcl:bs.length≤cur.toList.length:=by simp;omega
   refine (QiR bs.length g cap cur.toList w (by omega) hr hcl hl (fun t x ht hxt=>?_)).mono ?_
   ·have e:=congrArg (fun l:List Value=>l[t]?) hx'
    simp only [List.getElem?_take,if_pos ht,List.getElem?_map] at e
    rw [hxt] at e
    cases hyt:bs[t]? with
    | none=>rw [hyt] at e;simp at e
    | some y=>rw [hyt] at e;exact ⟨y,by simpa using e⟩
   ·rintro e w' ⟨rfl,hgr,c,hr',hlen,htk⟩
    have hk:JG 4 w w':=ZF (v:=.slice (some ⟨g,0,none⟩) bs.length cap) hrow (by simpa [Value.ownBlock] using hgr)
    refine ⟨rfl,⟨by simp,.inr ⟨g,cap,c.toArray,by simp,hbg,hr',by simpa using hn,hm,by simp at hlen ⊢;omega,?_⟩⟩,
     (Below.refl base w).grown hgr hb (fun k hk=>by obtain rfl:=Option.some.inj hk;exact hbg),hk⟩
    simpa [hx'] using htk
theorem Qhn (oa:Option Addr) (n c:Nat) (w:World):Calls Tryz.prog 127 #[.slice oa n c] w fun e w'=>e=.returned (.bool ((n:Int) != 32))∧w'=w:=by
 go_enter Tryz.func127,Tryz.ntmps127
 go_wp2
 go_ret
 exact ⟨rfl,rfl⟩
theorem QdA (ls:List (List (BitVec 8))) (v:Value) (N:Nat) (w:World) (h:Q8 w N v ls) (hl:ls.length<2305843009213693952) :
  Calls Tryz.prog 144 #[v,.func (.func 127) #[] #[]] w fun e w'=>w'=w∧∃ i:Int,e=.returned (.int .i64 i)∧(0≤i↔∃ d∈ls,d.length≠32):=by
 obtain ⟨oa,ca,rfl,hca⟩:=h.shape
 have HL:=hid h
 clear h
 generalize hn:ls.length=n at *
 have HN:=hid hn
 clear hn
 go_enter Tryz.func144,Tryz.ntmps144
 go_wp2_with fail
 go_loopw [8] (fun s8 wr=>∃ k:Nat,k≤n∧s8=.int .i64 (k:Int)∧wr=w∧Hid (∀ d∈ls.take k,d.length=32)) (fun s8 _=>n-(intOf s8).toNat)
 case atStart=>exact ⟨0,Nat.zero_le _,rfl,rfl,hid (by simp)⟩
 case round =>
  obtain ⟨k,hk,rfl,hwr,HR⟩:=hrel
  subst hwr
  by_cases hlt:k<n
  ·have hlt':(k:Int)<(n:Int):=by omega
   have hl2:Q8 wr N (.slice oa ls.length ca) ls:=by rw [HN.out];exact HL.out
   obtain ⟨b,o,rfl,hc⟩:=hl2.some (by rw [HN.out];omega)
   obtain ⟨hbN,x,hx,hbx⟩:=hc k (by rw [HN.out];exact hlt)
   obtain ⟨od,cd,rfl,_⟩:=hbx.shape
   obtain ⟨d,hd⟩:∃ d,ls.getD k []=d:=⟨_,rfl⟩
   have hdk:ls[k]?=some d:=by rw [← hd];exact getD_some _ _ _ (by rw [HN.out];exact hlt)
   rw [hd] at hx
   have HDK:=hid hdk
   have HF:=hid (Qhn od d.length cd wr)
   clear hl2 hc hbx hd hdk
   by_cases h32:d.length=32
   ·have e2:((d.length:Int) != 32)=false:=by simp;omega
    rw [e2] at HF
    have HTK:=hid (show ∀ d'∈ls.take (k+1),d'.length=32 from fun d' hd'=>by
     rw [List.take_add_one,HDK.out] at hd'
     rcases List.mem_append.1 hd' with hd' | hd'
     ·exact HR.out d' hd'
     ·obtain rfl:d'=d:=by simpa using hd'
      exact h32)
    clear e2 h32
    go_wp2_with fail
    refine HF.out.mono ?_
    rintro e w5 ⟨rfl,hw5⟩
    obtain rfl:=hw5.symm
    go_wp2_with fail
    exact ⟨⟨k+1,by omega,by go_num,by trivial,HTK⟩,by simp [intOf];omega⟩
   ·have e2:((d.length:Int) != 32)=true:=by simp;omega
    rw [e2] at HF
    have H32:=hid h32
    clear e2 h32
    go_wp2_with fail
    refine HF.out.mono ?_
    rintro e w5 ⟨rfl,hw5⟩
    obtain rfl:=hw5.symm
    go_wp2
    go_ret
    exact ⟨rfl,_,rfl,fun _=>⟨d,List.mem_of_getElem? HDK.out,H32.out⟩,fun _=>by omega⟩
  ·have hge:decide ((k:Int)<(n:Int))=false:=by simp;omega
   go_wp2
   go_ret
   refine ⟨rfl,_,rfl,fun h=>absurd h (by decide),?_⟩
   rintro ⟨d,hd,hne⟩
   exact absurd (HR.out d (by rw [List.take_of_length_le (by rw [HN.out];omega)];exact hd)) hne
theorem Qek (ls:List (List (BitVec 8))) (v:Value) (N:Nat) (w:World) (h:Q8 w N v ls) (hl:ls.length<2305843009213693952) :
  Calls Tryz.prog 126 #[v,.func (.func 127) #[] #[]] w fun e w'=>w'=w∧∃ b,e=.returned (.bool b)∧(b=true↔∃ d∈ls,d.length≠32):=by
 have HI:=hid (QdA ls v N w h hl)
 obtain ⟨oa,ca,rfl,hca⟩:=h.shape
 clear h
 go_enter Tryz.func126,Tryz.ntmps126
 go_wp2_with fail
 refine HI.out.mono ?_
 rintro e w5 ⟨hw5,i,rfl,hi⟩
 obtain rfl:=hw5.symm
 have HII:=hid hi
 clear hi
 go_wp2
 go_ret
 refine ⟨rfl,_,rfl,?_⟩
 rw [decide_eq_true_iff]
 exact HII.out
end Go.Proofs.YtbgdpfeobklnhaaGreatDoor
