/-
  Pairs JV a slice value: two cells each. Pairs in a row that a call owns. Slices of rows of pairs, and appends of them onto what a call owns.
  Doings JV a slice value: three cells each. No function of the program is named here.
  What the document's Less, Half and Four answer. What the document's Wrong answers: what is wrong with pairs, and where.
  Rows of turns that a call owns; what the document's Way answers: the turns from the root to a place.
  Rows of lists of bytes, and of Bools, that a call owns: appended to one by one. No function of the program is named here. What slices.Reverse answers: a row that the call owns, turned round in its place; and whether a list has another length than a digest's (slices.ContainsFunc, slices.IndexFunc). What slices.Reverse makes of lists and Bools that a call owns; what slices.ContainsFunc answers: whether a list has another length than a digest's; what bytes.Equal answers.
-/
import Derived.Test.YtooemgkjkngpcaaGreatDoorteBookMath
import Derived.Test.YtooemgkjkngpcaaGreatDoorteMemB
import Derived.Test.YtooemgkjkngpcaaGreatDoorteWireBoth
import Derived.Laws.OwnMore
import Derived.Deep.AppendLies
import Derived.Deep.QuietTactic
import Derived.BigQuiet
import Derived.Deep.RegionWith
namespace Go.Proofs.YtooemgkjkngpcaaGreatDoor
set_option maxRecDepth 1000000
set_option maxHeartbeats 8000000
open Go.RowKit
def Pr.fits (p:Pr):Prop:=p.key.length≤140737488351232∧p.val.length≤140737488351232
theorem ZC {w w':World} {base e size n:Nat} {v:Value} {xs:List Value} (h:w.ownsRow base e size v n xs) (hg:Below w.heap.size w w'):w'.ownsRow base e size v n xs:=by
 obtain ⟨h1,h2⟩:=h
 refine ⟨h1,?_⟩
 rcases h2 with h2 | ⟨g,cap,cur,h3,h4,h5,h6⟩
 ·exact .inl h2
 ·exact .inr ⟨g,cap,cur,h3,h4,(hg.block g (Array.getElem?_eq_some_iff.1 h5).1).trans h5,h6⟩
def Dg.fits (d:Dg):Prop:=d.key.length≤140737488351232∧d.val.length≤140737488351232
theorem Qfd (n:Nat) (w:World) (hn:n<1000000):Calls Tryz.prog 129 #[.int .i64 (n:Int)] w fun e w'=>e=.returned (.int .i64 (QC n:Int))∧w'=w:=by
 go_enter Tryz.func129,Tryz.ntmps129
 go_wp2_with fail
 go_loopw [3] (fun i wr=>∃ k:Nat,0<k∧k<1000000∧i=.int .i64 (k:Int)∧wr=w∧Hid (QC n=Qa8 k n)) (fun i _=>n-(intOf i).toNat)
 case atStart=>exact ⟨1,by omega,by omega,rfl,rfl,rfl⟩
 case round =>
  obtain ⟨k,hk,hk',rfl,rfl,HT⟩:=hrel
  by_cases hle:n≤2*k
  ·have e1:decide ((n:Int)≤2*(k:Int))=true:=by simp;omega
   have HR:=hid (show QC n=k by rw [HT.out,QbK,if_pos (.inl hle)])
   go_wp2
   go_ret
   exact ⟨by rw [HR.out];rfl,rfl⟩
  ·have e1:decide ((n:Int)≤2*(k:Int))=false:=by simp;omega
   go_wp2_with fail
   exact ⟨⟨2*k,by omega,by omega,by go_num,trivial,by rw [HT.out,QbK,if_neg (by omega)];exact hid rfl⟩,by simp [intOf];omega⟩
theorem QhC:(Tryz.prog.info? 158).map (fun i=>(i.zero,i.size,i.bytes))=some (some (.agg #[.bool false,.int .i64 0,.int .i64 0]),3,24):=by kernel_rfl
def Ye (t:Tn):List Value:=[.bool t.right,.int .i64 (t.frm:Int),.int .i64 (t.n:Int)]
def Zy (w:World) (base:Nat) (v:Value) (ts:List Tn):Prop:=w.ownsRow base 158 3 v ts.length (ts.flatMap Ye)
theorem Zy.nil (w:World) (base:Nat):Zy w base (.slice none 0 0) []:=World.ownsRow_nil w base 158 3
theorem Zy.below {w w':World} {base:Nat} {v:Value} {ts:List Tn} (h:Zy w base v ts) (hg:Below w.heap.size w w'):Zy w' base v ts:=ZC h hg
theorem Zy.shape {w:World} {base:Nat} {v:Value} {ts:List Tn} (h:Zy w base v ts):∃ oa cap,v=.slice oa ts.length cap∧ts.length≤cap:=by
 obtain ⟨_,h2⟩:=h
 rcases h2 with ⟨h3,h4⟩ | ⟨g,cap,cur,h3,_,_,h4,_⟩
 ·exact ⟨none,0,by rw [h4];exact h3,by omega⟩
 ·exact ⟨_,cap,h3,h4⟩
theorem Qgs (ts:List Tn):∀ (i j:Nat) (t:Tn),ts[i]?=some t→j<3→(ts.flatMap Ye)[i*3+j]?=(Ye t)[j]?:=by
 induction ts with
 | nil=>intro i j q h;simp at h
 | cons a r ih =>
  intro i j q h hj
  rw [List.flatMap_cons]
  have ha:(Ye a).length=3:=rfl
  cases i with
  | zero =>
   obtain rfl:a=q:=by simpa using h
   rw [Nat.zero_mul,Nat.zero_add,List.getElem?_append_left (by omega)]
  | succ i =>
   rw [List.getElem?_append_right (by omega),ha,show (i+1)*3+j-3=i*3+j by omega]
   exact ih i j q (by simpa using h) hj
theorem Zy.get {w:World} {base:Nat} {oa:Option Addr} {n cap:Nat} {ts:List Tn} (h:Zy w base (.slice oa n cap) ts) (hn:0<n):∃ g,oa=some ⟨g,0,none⟩∧base≤g∧g<w.heap.size∧∀ i t,ts[i]?=some t→w.cell? ⟨g,i*3,none⟩=some (.bool t.right)∧w.cell? ⟨g,i*3+1,none⟩=some (.int .i64 (t.frm:Int))∧w.cell? ⟨g,i*3+2,none⟩=some (.int .i64 (t.n:Int)):=by
 obtain ⟨h1,h2⟩:=h
 rcases h2 with ⟨h0,h0'⟩ | ⟨g,cap',cur,hv,hb,hg,hn',_,hc,hx⟩
 ·simp at h0;omega
 ·simp at hv
  refine ⟨g,hv.1,hb,(Array.getElem?_eq_some_iff.1 hg).1,fun i t ht=>?_⟩
  have hil:i<ts.length:=(List.getElem?_eq_some_iff.1 ht).1
  have cell:∀ j,j<3→w.cell? ⟨g,i*3+j,none⟩=(Ye t)[j]?:=fun j hj=>by
   rw [cell_of_row w g _ cur _ _ hg,← Qgs ts i j t ht hj,← hx,List.getElem?_take,if_pos (by omega),Array.getElem?_toList]
  exact ⟨cell 0 (by omega),cell 1 (by omega),cell 2 (by omega)⟩
theorem ZY {ops:Array Oper} {rest:List Oper} {o:Oper} {a:Act} {W:World} {Q:Exit→Act→World→Prop} (hgd:o.guard=none) (s x:Operand)
  (ho:o.op=.call { callee:=.builtin .append,args:=#[s,x],argTypes:=#[154,154] })
  (base:Nat) (v:Value) (ts:List Tn) (hs:a.eval s=v) (hown:Zy W base v ts) (t:Tn) (g:Nat)
  (hx:a.eval x=.slice (some ⟨g,0,none⟩) 1 1) (hr:Row W g 158 (Ye t)) (hl:ts.length≤1000000) (hbase:base≤W.heap.size)
  (h:∀ v' w',Zy w' base v' (ts ++ [t])→Below base W w'→wpList Tryz.prog ops Q rest (a.put o.dst v') w') :
  wpList Tryz.prog ops Q (o :: rest) a W:=by
 obtain ⟨i0,hi0,hz0,hz1,hz2⟩:=info_parts QhC
 refine wpList_append_own _ hgd s x 154 ho base 158 i0 _ 3 24 Tryz.underlying154 hi0 hz0 hz1 hz2 rfl (by decide) v ts.length (ts.flatMap Ye) hs hown ⟨g,0,none⟩ 1 1
  (Ye t) hx rfl ?_ ?_ (by unfold maxLen;omega) (by omega) hbase ?_
 ·intro j u hj
  have hadd:(⟨g,0,none⟩:Addr).add j=⟨g,j,none⟩:=by unfold Addr.add;split <;> simp_all
  rw [hadd,hr.cell]
  exact hj
 ·intro u hu
  simp [Ye] at hu
  rcases hu with rfl | rfl | rfl <;> rfl
 ·intro v' w' h1 h2 _
  refine h v' w' ?_ ((Below.refl base W).grown h2 hbase (fun k hk=>(World.ownsRow.lt hown k hk).1))
  unfold Zy
  rw [List.length_append,List.flatMap_append]
  simpa using h1
theorem Y7 (n:Nat):∀ i a,(J2 i n a).length≤n:=by
 induction n using Nat.strongRecOn with
 | _ n ih =>
  intro i a
  by_cases h1:1<n
  ·have hh:=Z7 n h1
   by_cases hik:i<QC n
   ·rw [QbN i n a h1 hik,List.length_cons]
    have:=ih (QC n) (by omega) i a
    omega
   ·rw [Qa3 i n a h1 hik,List.length_cons]
    have:=ih (n-QC n) (by omega) (i-QC n) (a+QC n)
    omega
  ·rw [Qc0 i n a h1]
   exact Nat.zero_le _
theorem Qgw (i n:Nat) (w:World) (hi:i<n) (hn:n≤1000) :
  Calls Tryz.prog 103 #[.int .i64 (i:Int),.int .i64 (n:Int)] w fun e w'=>∃ v,e=.returned v∧Zy w' w.heap.size v (J2 i n 0)∧Below w.heap.size w w':=by
 have HWL:=hid (Y7 n i 0)
 go_enter Tryz.func103,Tryz.ntmps103
 go_wp2_with fail
 go_loopw [0,1,5,6] (fun s0 s1 s5 s6 wr=>∃ (j m a:Nat) (ts:List Tn),j<m∧m≤n∧a+m≤n∧s0=.int .i64 (j:Int)∧s1=.int .i64 (m:Int)∧s6=.int .i64 (a:Int)∧Hid (Zy wr w.heap.size s5 ts∧Below w.heap.size w wr∧J2 i n 0=ts ++ J2 j m a)) (fun _ s1 _ _ _=>(intOf s1).toNat)
 case atStart=>exact ⟨i,n,0,[],hi,Nat.le_refl _,by omega,rfl,rfl,rfl,hid ⟨Zy.nil _ _,Below.refl _ _,rfl⟩⟩
 case round =>
  obtain ⟨j,m,a,ts,hjm,hmn,ham,rfl,rfl,rfl,HR⟩:=hrel
  have hszr:=HR.out.2.1.size
  have HTL:=hid (show ts.length≤n by
   have h1:=HWL.out
   rw [HR.out.2.2,List.length_append] at h1
   omega)
  by_cases h1:1<m
  ·have hh:=Z7 m h1
   obtain ⟨k,hk⟩:∃ k,QC m=k:=⟨_,rfl⟩
   have HH:=hid (Qfd m wr (by omega))
   have HL:=hid (fun h=>QbN j m a h1 h)
   have HRT:=hid (fun h=>Qa3 j m a h1 h)
   rw [hk] at HH hh HL HRT
   have e1:decide ((1:Int)<(m:Int))=true:=by simp;omega
   clear hk
   obtain ⟨oy,cy,rfl,hcy⟩:=HR.out.1.shape
   by_cases hjk:j<k
   ·have e2:decide ((j:Int)<(k:Int))=true:=by simp;omega
    have HEQ:=hid (show J2 i n 0=(ts ++ [⟨false,a+k,m-k⟩]) ++ J2 j k a by rw [HR.out.2.2,HL.out hjk];simp)
    obtain ⟨w1,hw1⟩:∃ w1,wr.alloc (.cells #[.bool false,.int .i64 ((a:Int)+(k:Int)),.int .i64 ((m:Int)-(k:Int))] 158)=w1:=⟨_,rfl⟩
    have hb1:=bof hw1
    have HROW:=hid (show Row w1 wr.heap.size 158 (Ye ⟨false,a+k,m-k⟩) by
     rw [← hw1]
     have e:Ye ⟨false,a+k,m-k⟩=[.bool false,.int .i64 ((a:Int)+(k:Int)),.int .i64 ((m:Int)-(k:Int))]:=by
      simp only [Ye]
      rw [show ((a+k:Nat):Int)=(a:Int)+(k:Int) by omega,show ((m-k:Nat):Int)=(m:Int)-(k:Int) by omega]
     rw [e]
     exact Row.new _ _ _)
    have HO1:=hid (HR.out.1.below hb1)
    have HB1:=hid (HR.out.2.1.trans (hb1.mono hszr))
    have HW1:=hid hw1
    have HSZ1:=hid HB1.out.size
    clear hb1 hw1
    go_wp2_with fail
    refine HH.out.mono ?_
    rintro e w' ⟨rfl,hw'⟩
    obtain rfl:=hw'.symm
    go_wp2_with (at_builtin;rw [HW1.out];refine ZY rfl (.tmp 15) (.tmp 23) rfl w.heap.size _ ts rfl HO1.out ⟨false,a+k,m-k⟩ wr.heap.size rfl HROW.out (by have:=HTL.out;omega) HSZ1.out ?_;intro v' w2 g1 g2;have G1:=hid g1;have G2:=hid (HB1.out.trans g2);clear g1 g2)
    go_roundw
    case rel=>exact ⟨j,k,a,ts ++ [⟨false,a+k,m-k⟩],hjk,by omega,by omega,rfl,rfl,rfl,hid ⟨G1.out,G2.out,HEQ.out⟩⟩
    case measure=>simp [intOf];omega
   ·have e2:decide ((j:Int)<(k:Int))=false:=by simp;omega
    have HEQ:=hid (show J2 i n 0=(ts ++ [⟨true,a,k⟩]) ++ J2 (j-k) (m-k) (a+k) by rw [HR.out.2.2,HRT.out hjk];simp)
    obtain ⟨w1,hw1⟩:∃ w1,wr.alloc (.cells #[.bool true,.int .i64 (a:Int),.int .i64 (k:Int)] 158)=w1:=⟨_,rfl⟩
    have hb1:=bof hw1
    have HROW:=hid (show Row w1 wr.heap.size 158 (Ye ⟨true,a,k⟩) by rw [← hw1];exact Row.new _ _ _)
    have HO1:=hid (HR.out.1.below hb1)
    have HB1:=hid (HR.out.2.1.trans (hb1.mono hszr))
    have HW1:=hid hw1
    have HSZ1:=hid HB1.out.size
    clear hb1 hw1
    go_wp2_with fail
    refine HH.out.mono ?_
    rintro e w' ⟨rfl,hw'⟩
    obtain rfl:=hw'.symm
    go_wp2_with (at_builtin;rw [HW1.out];refine ZY rfl (.tmp 26) (.tmp 30) rfl w.heap.size _ ts rfl HO1.out ⟨true,a,k⟩ wr.heap.size rfl HROW.out (by have:=HTL.out;omega) HSZ1.out ?_;intro v' w2 g1 g2;have G1:=hid g1;have G2:=hid (HB1.out.trans g2);clear g1 g2)
    go_roundw
    case rel=>exact ⟨j-k,m-k,a+k,ts ++ [⟨true,a,k⟩],by omega,by omega,by omega,by go_num,by go_num,by go_num,hid ⟨G1.out,G2.out,HEQ.out⟩⟩
    case measure=>simp [intOf];omega
  ·have e1:decide ((1:Int)<(m:Int))=false:=by simp;omega
   have HEQ:=hid (show J2 i n 0=ts by rw [HR.out.2.2,Qc0 j m a h1,List.append_nil])
   go_wp2
   go_ret
   exact ⟨_,rfl,by rw [HEQ.out];exact HR.out.1,HR.out.2.1⟩
def J0 (t:TypeId) (w w':World):Prop:=∀ (k:Nat) (cs:Array Value) (t':TypeId) (fr:Nat×Nat),w.heap[k]?=some (.cells cs t' fr)→t'≠t→w'.heap[k]?=w.heap[k]?
theorem J0.refl (t:TypeId) (w:World):J0 t w w:=fun _ _ _ _ _ _=>rfl
theorem J0.trans {t:TypeId} {w w1 w2:World} (h:J0 t w w1) (k:J0 t w1 w2):J0 t w w2:=fun i cs t' fr hi ht=>by
 have h1:=h i cs t' fr hi ht
 exact (k i cs t' fr (h1.trans hi) ht).trans h1
theorem J0.row {t:TypeId} {w w':World} (h:J0 t w w') {g:Nat} {t':TypeId} {cs:List Value} (hr:Row w g t' cs) (ht:t'≠t):Row w' g t' cs:=by
 unfold Row at hr ⊢
 rw [h g _ _ _ hr ht]
 exact hr
theorem J0.owns {t:TypeId} {w w':World} (h:J0 t w w') {base e n:Nat} {v:Value} {xs:List Value} (ho:w.ownsRow base e 1 v n xs) (ht:e≠t):w'.ownsRow base e 1 v n xs:=by
 obtain ⟨h1,h2⟩:=ho
 refine ⟨h1,?_⟩
 rcases h2 with h2 | ⟨g,cap,cur,h3,h4,h5,h6⟩
 ·exact .inl h2
 ·exact .inr ⟨g,cap,cur,h3,h4,(h g _ _ _ h5 ht).trans h5,h6⟩
theorem Qg7 {w:World} {g:Nat} {t:TypeId} {cs:List Value} (hr:Row w g t cs) (i:Nat) (x:Value):J0 t w (w.setCell ⟨g,i,none⟩ x):=fun k cs' t' fr hk ht=>by
 refine Below.heap_setCell w ⟨g,i,none⟩ x k ?_
 rintro rfl
 unfold Row at hr
 rw [hr] at hk
 simp at hk
 exact ht hk.2.1.symm
theorem ZM {w w':World} {base t n:Nat} {v:Value} {xs:List Value} (ho:w.ownsRow base t 1 v n xs) (hg:w.grownBy w' v.ownBlock):J0 t w w':=fun k cs t' fr hk ht=>by
 refine hg.block k (Array.getElem?_eq_some_iff.1 hk).1 ?_
 intro he
 rcases ho.2 with ⟨rfl,_⟩ | ⟨g,c,cur,rfl,_,h5,_⟩
 ·simp [Value.ownBlock] at he
 ·obtain rfl:k=g:=by simpa [Value.ownBlock] using he
  rw [h5] at hk
  simp at hk
  exact ht hk.2.1.symm
structure LV where
 v:Value
 l:List (BitVec 8)
def Y9 (w:World) (base:Nat) (v:Value) (ls:List (List (BitVec 8))):Prop :=
 ∃ ys:List LV,ys.map (·.l)=ls∧w.ownsRow base 35 1 v ys.length (ys.map (·.v))∧∀ y∈ys,Qs w base y.v y.l
theorem Y9.nil (w:World) (base:Nat):Y9 w base (.slice none 0 0) []:=⟨[],rfl,World.ownsRow_nil w base 35 1,fun y hy=>by cases hy⟩
theorem Y9.below {w w':World} {base:Nat} {v:Value} {ls:List (List (BitVec 8))} (h:Y9 w base v ls) (hg:Below w.heap.size w w'):Y9 w' base v ls:=by
 obtain ⟨ys,h1,h2,h3⟩:=h
 exact ⟨ys,h1,ZC h2 hg,fun y hy=>(h3 y hy).below hg⟩
theorem Y9.keep {t:TypeId} {w w':World} {base:Nat} {v:Value} {ls:List (List (BitVec 8))} (h:Y9 w base v ls) (hg:J0 t w w') (ht:35≠t) (ht':5≠t):Y9 w' base v ls:=by
 obtain ⟨ys,h1,h2,h3⟩:=h
 exact ⟨ys,h1,hg.owns h2 ht,fun y hy=>hg.owns (h3 y hy) ht'⟩
theorem Y9.mono {w:World} {base base':Nat} {v:Value} {ls:List (List (BitVec 8))} (h:Y9 w base v ls) (hb:base'≤base):Y9 w base' v ls:=by
 obtain ⟨ys,h1,⟨h2,h2'⟩,h3⟩:=h
 refine ⟨ys,h1,⟨h2,?_⟩,fun y hy=>(h3 y hy).mono hb⟩
 rcases h2' with h | ⟨g,cap,cur,k1,k2,k3⟩
 ·exact .inl h
 ·exact .inr ⟨g,cap,cur,k1,Nat.le_trans hb k2,k3⟩
theorem Y9.shape {w:World} {base:Nat} {v:Value} {ls:List (List (BitVec 8))} (h:Y9 w base v ls):∃ oa cap,v=.slice oa ls.length cap∧ls.length≤cap:=by
 obtain ⟨ys,rfl,⟨_,h2⟩,_⟩:=h
 rcases h2 with ⟨h3,h4⟩ | ⟨g,cap,cur,h3,_,_,h4,_⟩
 ·exact ⟨none,0,by rw [List.length_map,h4];exact h3,by rw [List.length_map];omega⟩
 ·exact ⟨_,cap,by rw [List.length_map];exact h3,by rw [List.length_map];exact h4⟩
theorem Qfe:(Tryz.prog.info? 35).map (fun i=>(i.zero,i.size,i.bytes))=some (some (.slice none 0 0),1,24):=by kernel_rfl
theorem Qs.one {w:World} {base:Nat} {v:Value} {l:List (BitVec 8)} (h:Qs w base v l):v.oneCell'=true:=by
 obtain ⟨oa,cap,rfl,_⟩:=h.shape
 rfl
theorem QeK {o:Oper} {a:Act} {w:World} {K:Act→World→Prop} {Q:Exit→Act→World→Prop} (s x:Operand)
  (ho:o.op=.call { callee:=.builtin .append,args:=#[s,x],argTypes:=#[40,40] })
  (base:Nat) (v:Value) (ls:List (List (BitVec 8))) (hs:a.eval s=v) (hown:Y9 w base v ls) (g:Nat) (y:Value) (l:List (BitVec 8)) (hx:a.eval x=.slice (some ⟨g,0,none⟩) 1 1)
  (hr:Row w g 35 [y]) (hy:Qs w base y l) (hl:ls.length≤1000000) (hbase:base≤w.heap.size)
  (h:∀ v' w',Y9 w' base v' (ls ++ [l])→Below base w w'→J0 35 w w'→K (a.put o.dst v') w'):o.wp Tryz.prog a w K Q:=by
 obtain ⟨i0,hi0,hz0,hz1,hz2⟩:=info_parts Qfe
 obtain ⟨ys,rfl,hrow,hys⟩:=hown
 rw [List.length_map] at hl
 refine wp_append_own w s x 40 ho base 35 i0 (.slice none 0 0) 1 24 Tryz.underlying40 hi0 hz0 hz1 hz2 rfl (by decide) v ys.length (ys.map (·.v)) hs hrow ⟨g,0,none⟩ 1 1 [y] hx rfl ?_ ?_ (by unfold maxLen;omega) (by omega) hbase ?_
 ·intro j u hj
  have hadd:(⟨g,0,none⟩:Addr).add j=⟨g,j,none⟩:=by unfold Addr.add;split <;> simp_all
  rw [hadd,hr.cell]
  exact hj
 ·intro u hu
  obtain rfl:u=y:=by simpa using hu
  exact hy.one
 ·intro v' w' h1 h2 _
  have hk:J0 35 w w':=ZM hrow h2
  refine h v' w' ⟨ys ++ [⟨y,l⟩],by simp,?_,fun q hq=>?_⟩ ((Below.refl base w).grown h2 hbase (fun k hk=>(World.ownsRow.lt hrow k hk).1)) hk
  ·rw [List.length_append,List.map_append]
   exact h1
  ·rcases List.mem_append.1 hq with hq | hq
   ·exact hk.owns (hys q hq) (by decide)
   ·obtain rfl:q=⟨y,l⟩:=by simpa using hq
    exact hk.owns hy (by decide)
theorem Zc {ops:Array Oper} {rest:List Oper} {o:Oper} {a:Act} {w:World} {Q:Exit→Act→World→Prop} (hgd:o.guard=none) (s x:Operand)
  (ho:o.op=.call { callee:=.builtin .append,args:=#[s,x],argTypes:=#[40,40] })
  (base:Nat) (v:Value) (ls:List (List (BitVec 8))) (hs:a.eval s=v) (hown:Y9 w base v ls) (g:Nat) (y:Value) (l:List (BitVec 8)) (hx:a.eval x=.slice (some ⟨g,0,none⟩) 1 1)
  (hr:Row w g 35 [y]) (hy:Qs w base y l) (hl:ls.length≤1000000) (hbase:base≤w.heap.size)
  (h:∀ v' w',Y9 w' base v' (ls ++ [l])→Below base w w'→J0 35 w w'→wpList Tryz.prog ops Q rest (a.put o.dst v') w'):wpList Tryz.prog ops Q (o :: rest) a w :=
 wpList_plain hgd fun _ hK=>QeK s x ho base v ls hs hown g y l hx hr hy hl hbase fun v' w' h1 h2 h3=>hK _ _ (h v' w' h1 h2 h3)
def Za (w:World) (base:Nat) (v:Value) (bs:List Bool):Prop:=w.ownsRow base 4 1 v bs.length (bs.map Value.bool)
theorem Za.nil (w:World) (base:Nat):Za w base (.slice none 0 0) []:=World.ownsRow_nil w base 4 1
theorem Za.below {w w':World} {base:Nat} {v:Value} {bs:List Bool} (h:Za w base v bs) (hg:Below w.heap.size w w'):Za w' base v bs:=ZC h hg
theorem Za.shape {w:World} {base:Nat} {v:Value} {bs:List Bool} (h:Za w base v bs):∃ oa cap,v=.slice oa bs.length cap∧bs.length≤cap:=by
 obtain ⟨_,h2⟩:=h
 rcases h2 with ⟨h3,h4⟩ | ⟨g,cap,cur,h3,_,_,h4,_⟩
 ·exact ⟨none,0,by rw [h4];exact h3,by omega⟩
 ·exact ⟨_,cap,h3,h4⟩
theorem Za.get {w:World} {base:Nat} {oa:Option Addr} {n cap:Nat} {bs:List Bool} (h:Za w base (.slice oa n cap) bs) (hn:0<n):∃ g,oa=some ⟨g,0,none⟩∧base≤g∧g<w.heap.size∧∀ (i:Nat) b,bs[i]?=some b→w.cell? ⟨g,i,none⟩=some (.bool b):=by
 obtain ⟨h1,h2⟩:=h
 rcases h2 with ⟨h0,h0'⟩ | ⟨g,cap',cur,hv,hb,hg,hn',_,hc,hx⟩
 ·simp at h0;omega
 ·simp at hv
  refine ⟨g,hv.1,hb,(Array.getElem?_eq_some_iff.1 hg).1,fun i b hb=>?_⟩
  have hil:i<bs.length:=(List.getElem?_eq_some_iff.1 hb).1
  rw [cell_of_row w g _ cur _ _ hg,← Array.getElem?_toList]
  have e:=congrArg (fun l:List Value=>l[i]?) hx
  simp only [List.getElem?_take,Nat.mul_one] at e
  rw [if_pos hil] at e
  rw [e,List.getElem?_map,hb]
  rfl
theorem Qga:(Tryz.prog.info? 4).map (fun i=>(i.zero,i.size,i.bytes))=some (some (.bool false),1,1):=by kernel_rfl
theorem Qe1 {o:Oper} {a:Act} {w:World} {K:Act→World→Prop} {Q:Exit→Act→World→Prop} (s x:Operand)
  (ho:o.op=.call { callee:=.builtin .append,args:=#[s,x],argTypes:=#[213,213] })
  (base:Nat) (v:Value) (bs:List Bool) (hs:a.eval s=v) (hown:Za w base v bs) (g:Nat) (b:Bool) (hx:a.eval x=.slice (some ⟨g,0,none⟩) 1 1)
  (hr:Row w g 4 [.bool b]) (hl:bs.length≤1000000) (hbase:base≤w.heap.size)
  (h:∀ v' w',Za w' base v' (bs ++ [b])→Below base w w'→J0 4 w w'→K (a.put o.dst v') w'):o.wp Tryz.prog a w K Q:=by
 obtain ⟨i0,hi0,hz0,hz1,hz2⟩:=info_parts Qga
 refine wp_append_own w s x 213 ho base 4 i0 (.bool false) 1 1 Tryz.underlying213 hi0 hz0 hz1 hz2 rfl (by decide) v bs.length (bs.map Value.bool) hs hown ⟨g,0,none⟩ 1 1 [.bool b] hx rfl ?_ ?_ (by unfold maxLen;omega) (by omega) hbase ?_
 ·intro j u hj
  have hadd:(⟨g,0,none⟩:Addr).add j=⟨g,j,none⟩:=by unfold Addr.add;split <;> simp_all
  rw [hadd,hr.cell]
  exact hj
 ·intro u hu
  obtain rfl:u=.bool b:=by simpa using hu
  rfl
 ·intro v' w' h1 h2 _
  refine h v' w' ?_ ((Below.refl base w).grown h2 hbase (fun k hk=>(World.ownsRow.lt hown k hk).1)) (ZM hown h2)
  unfold Za
  rw [List.length_append,List.map_append]
  exact h1
theorem Qcb {ops:Array Oper} {rest:List Oper} {o:Oper} {a:Act} {w:World} {Q:Exit→Act→World→Prop} (hgd:o.guard=none) (s x:Operand)
  (ho:o.op=.call { callee:=.builtin .append,args:=#[s,x],argTypes:=#[213,213] })
  (base:Nat) (v:Value) (bs:List Bool) (hs:a.eval s=v) (hown:Za w base v bs) (g:Nat) (b:Bool) (hx:a.eval x=.slice (some ⟨g,0,none⟩) 1 1)
  (hr:Row w g 4 [.bool b]) (hl:bs.length≤1000000) (hbase:base≤w.heap.size)
  (h:∀ v' w',Za w' base v' (bs ++ [b])→Below base w w'→J0 4 w w'→wpList Tryz.prog ops Q rest (a.put o.dst v') w'):wpList Tryz.prog ops Q (o :: rest) a w :=
 wpList_plain hgd fun _ hK=>Qe1 s x ho base v bs hs hown g b hx hr hl hbase fun v' w' h1 h2 h3=>hK _ _ (h v' w' h1 h2 h3)
def Rv (cs c:List Value) (n i:Nat):Prop:=c.length=cs.length∧∀ t,t<n→c[t]?=if t<i∨n<t+1+i then cs[n-1-t]? else cs[t]?
theorem Rv.start (cs:List Value) (n:Nat):Rv cs cs n 0:=⟨rfl,fun t ht=>by rw [if_neg (by omega)]⟩
theorem Rv.step {cs c:List Value} {n i j:Nat} (h:Rv cs c n i) (hij:i+j+1=n) (hlt:i<j) (hn:n≤cs.length) {xi xj:Value} (hi:c[i]?=some xi) (hj:c[j]?=some xj):Rv cs ((c.set i xj).set j xi) n (i+1):=by
 obtain ⟨h1,h2⟩:=h
 have ei:=h2 i (by omega)
 have ej:=h2 j (by omega)
 rw [if_neg (by omega),hi] at ei
 rw [if_neg (by omega),hj] at ej
 refine ⟨by simp [h1],fun t ht=>?_⟩
 rw [List.getElem?_set,List.getElem?_set]
 by_cases e1:j=t
 ·subst e1
  rw [if_pos rfl,if_pos (by simp;omega),if_pos (by omega),show n-1-j=i by omega]
  exact ei
 ·rw [if_neg e1]
  by_cases e2:i=t
  ·subst e2
   rw [if_pos rfl,if_pos (by omega),if_pos (by omega),show n-1-i=j by omega]
   exact ej
  ·rw [if_neg e2,h2 t ht]
   by_cases e3:t<i∨n<t+1+i
   ·rw [if_pos e3,if_pos (by omega)]
   ·rw [if_neg e3,if_neg (by omega)]
theorem Rv.at {cs c:List Value} {n i t:Nat} (h:Rv cs c n i) (h1:i≤t) (h2:t+i<n):c[t]?=cs[t]?:=by
 rw [h.2 t (by omega),if_neg (by omega)]
theorem Rv.stop {cs c:List Value} {n i:Nat} (h:Rv cs c n i) (hi:n≤i+i+1) (hn:n≤cs.length):c.take n=(cs.take n).reverse:=by
 obtain ⟨h1,h2⟩:=h
 refine List.ext_getElem? fun t=>?_
 by_cases ht:t<n
 ·have e0:(cs.take n).reverse[t]?=cs[n-1-t]?:=by
   rw [List.getElem?_reverse (by simp;omega),List.length_take,Nat.min_eq_left hn,List.getElem?_take,if_pos (by omega)]
  rw [List.getElem?_take,if_pos ht,h2 t ht,e0]
  by_cases e:t<i∨n<t+1+i
  ·rw [if_pos e]
  ·rw [if_neg e,show n-1-t=t by omega]
 ·rw [List.getElem?_eq_none (by simp;omega),List.getElem?_eq_none (by simp;omega)]
theorem QhD (oa:Option Addr) (cap:Nat) (w:World):Calls Tryz.prog 180 #[.slice oa 0 cap] w fun e w'=>e=.returned (.tuple #[])∧w'=w:=by
 go_enter Tryz.func180,Tryz.ntmps180
 go_wp2_with fail
 go_loopw [2,3] (fun s2 s3 wr=>s2=.int .i64 0∧s3=.int .i64 (-1)∧wr=w) (fun _ _ _=>0)
 case atStart=>exact ⟨rfl,rfl,rfl⟩
 case round =>
  obtain ⟨rfl,rfl,rfl⟩:=hrel
  go_wp2
  go_end0
  exact ⟨rfl,rfl⟩
theorem Qi3 (n g cap:Nat) (cs:List Value) (w:World) (hn:1≤n) (hr:Row w g 35 cs) (hcl:n≤cs.length) (hb:n≤1000000) (hsh:∀ (t:Nat) x,t<n→cs[t]?=some x→∃ oa m k,x=.slice oa m k) :
  Calls Tryz.prog 180 #[.slice (some ⟨g,0,none⟩) n cap] w fun e w'=>e=.returned (.tuple #[])∧w.grownBy w' (some g)∧∃ c,Row w' g 35 c∧c.length=cs.length∧c.take n=(cs.take n).reverse:=by
 have HR0:=hid hr
 clear hr
 go_enter Tryz.func180,Tryz.ntmps180
 go_wp2_with fail
 go_loopw [2,3] (fun s2 s3 wr=>∃ i j:Nat,s2=.int .i64 (i:Int)∧s3=.int .i64 (j:Int)∧i+j+1=n∧i≤j+1∧Hid (w.grownBy wr (some g)∧∃ c,Row wr g 35 c∧Rv cs c n i)) (fun s2 _ _=>n-(intOf s2).toNat)
 case atStart=>exact ⟨0,n-1,rfl,by go_num,by omega,by omega,hid ⟨Yr _ _,cs,HR0.out,Rv.start _ _⟩⟩
 case round =>
  obtain ⟨i,j,rfl,rfl,hij,hle,HI⟩:=hrel
  by_cases hlt:i<j
  ·have hlt':(i:Int)<(j:Int):=by omega
   obtain ⟨hg,c,hrow,hrv⟩:=HI.out
   have hcl2:=hrv.1
   obtain ⟨xi,hxi⟩:∃ x,c[i]?=some x:=⟨c[i]'(by omega),List.getElem?_eq_getElem _⟩
   obtain ⟨xj,hxj⟩:∃ x,c[j]?=some x:=⟨c[j]'(by omega),List.getElem?_eq_getElem _⟩
   obtain ⟨oi,mi,ki,rfl⟩:=hsh i xi (by omega) ((hrv.at (Nat.le_refl _) (by omega)).symm.trans hxi)
   obtain ⟨oj,mj,kj,rfl⟩:=hsh j xj (by omega) ((hrv.at (by omega) (by omega)).symm.trans hxj)
   have d0:=(hrow.cell i).trans hxi
   have d1:=(hrow.cell j).trans hxj
   have f0:=hrow.frozen i
   have f1:=hrow.frozen j
   have f2:=(hrow.set i (.slice oj mj kj)).frozen j
   have hin:(i:Int)<(n:Int):=by omega
   have hjn:(j:Int)<(n:Int):=by omega
   have HN:=hid (show w.grownBy (((wr.setCell ⟨g,i,none⟩ (.slice oj mj kj)).setCell ⟨g,j,none⟩ (.slice oi mi ki)).drew) (some g)∧∃ c,Row (((wr.setCell ⟨g,i,none⟩ (.slice oj mj kj)).setCell ⟨g,j,none⟩ (.slice oi mi ki)).drew) g 35 c∧Rv cs c n (i+1) from
    ⟨Ys (Qj hg (Qj (Q0 _ _ _ _) (Q0 _ _ _ _))) ,_,((hrow.set i (.slice oj mj kj)).set j (.slice oi mi ki)).drew,hrv.step hij hlt hcl hxi hxj⟩)
   have HSH:=hid hsh
   clear hg hrow hrv HI hxi hxj hsh
   go_wp2_with fail
   go_region
   go_wp2_with fail
   exact ⟨⟨i+1,j-1,by go_num,by go_num,by omega,by omega,HN⟩,by simp [intOf];omega⟩
  ·have hge:decide ((i:Int)<(j:Int))=false:=by simp;omega
   go_wp2
   go_end0
   obtain ⟨hg,c,hrow,hrv⟩:=HI.out
   exact ⟨rfl,hg,c,hrow,hrv.1,hrv.stop (by omega) hcl⟩
theorem QhK (oa:Option Addr) (cap:Nat) (w:World):Calls Tryz.prog 193 #[.slice oa 0 cap] w fun e w'=>e=.returned (.tuple #[])∧w'=w:=by
 go_enter Tryz.func193,Tryz.ntmps193
 go_wp2_with fail
 go_loopw [2,3] (fun s2 s3 wr=>s2=.int .i64 0∧s3=.int .i64 (-1)∧wr=w) (fun _ _ _=>0)
 case atStart=>exact ⟨rfl,rfl,rfl⟩
 case round =>
  obtain ⟨rfl,rfl,rfl⟩:=hrel
  go_wp2
  go_end0
  exact ⟨rfl,rfl⟩
theorem Qh3 (n g cap:Nat) (cs:List Value) (w:World) (hn:1≤n) (hr:Row w g 4 cs) (hcl:n≤cs.length) (hb:n≤1000000) (hsh:∀ (t:Nat) x,t<n→cs[t]?=some x→∃ b,x=.bool b) :
  Calls Tryz.prog 193 #[.slice (some ⟨g,0,none⟩) n cap] w fun e w'=>e=.returned (.tuple #[])∧w.grownBy w' (some g)∧∃ c,Row w' g 4 c∧c.length=cs.length∧c.take n=(cs.take n).reverse:=by
 have HR0:=hid hr
 clear hr
 go_enter Tryz.func193,Tryz.ntmps193
 go_wp2_with fail
 go_loopw [2,3] (fun s2 s3 wr=>∃ i j:Nat,s2=.int .i64 (i:Int)∧s3=.int .i64 (j:Int)∧i+j+1=n∧i≤j+1∧Hid (w.grownBy wr (some g)∧∃ c,Row wr g 4 c∧Rv cs c n i)) (fun s2 _ _=>n-(intOf s2).toNat)
 case atStart=>exact ⟨0,n-1,rfl,by go_num,by omega,by omega,hid ⟨Yr _ _,cs,HR0.out,Rv.start _ _⟩⟩
 case round =>
  obtain ⟨i,j,rfl,rfl,hij,hle,HI⟩:=hrel
  by_cases hlt:i<j
  ·have hlt':(i:Int)<(j:Int):=by omega
   obtain ⟨hg,c,hrow,hrv⟩:=HI.out
   have hcl2:=hrv.1
   obtain ⟨xi,hxi⟩:∃ x,c[i]?=some x:=⟨c[i]'(by omega),List.getElem?_eq_getElem _⟩
   obtain ⟨xj,hxj⟩:∃ x,c[j]?=some x:=⟨c[j]'(by omega),List.getElem?_eq_getElem _⟩
   obtain ⟨bi,rfl⟩:=hsh i xi (by omega) ((hrv.at (Nat.le_refl _) (by omega)).symm.trans hxi)
   obtain ⟨bj,rfl⟩:=hsh j xj (by omega) ((hrv.at (by omega) (by omega)).symm.trans hxj)
   have d0:=(hrow.cell i).trans hxi
   have d1:=(hrow.cell j).trans hxj
   have f0:=hrow.frozen i
   have f1:=hrow.frozen j
   have f2:=(hrow.set i (.bool bj)).frozen j
   have hin:(i:Int)<(n:Int):=by omega
   have hjn:(j:Int)<(n:Int):=by omega
   have HN:=hid (show w.grownBy (((wr.setCell ⟨g,i,none⟩ (.bool bj)).setCell ⟨g,j,none⟩ (.bool bi)).drew) (some g)∧∃ c,Row (((wr.setCell ⟨g,i,none⟩ (.bool bj)).setCell ⟨g,j,none⟩ (.bool bi)).drew) g 4 c∧Rv cs c n (i+1) from
    ⟨Ys (Qj hg (Qj (Q0 _ _ _ _) (Q0 _ _ _ _))) ,_,((hrow.set i (.bool bj)).set j (.bool bi)).drew,hrv.step hij hlt hcl hxi hxj⟩)
   have HSH:=hid hsh
   clear hg hrow hrv HI hxi hxj hsh
   go_wp2_with fail
   go_region
   go_wp2_with fail
   exact ⟨⟨i+1,j-1,by go_num,by go_num,by omega,by omega,HN⟩,by simp [intOf];omega⟩
  ·have hge:decide ((i:Int)<(j:Int))=false:=by simp;omega
   go_wp2
   go_end0
   obtain ⟨hg,c,hrow,hrv⟩:=HI.out
   exact ⟨rfl,hg,c,hrow,hrv.1,hrv.stop (by omega) hcl⟩
theorem Qh7 (ls:List (List (BitVec 8))) (v:Value) (base:Nat) (w:World) (h:Y9 w base v ls) (hb:base≤w.heap.size) (hl:ls.length≤1000000) :
  Calls Tryz.prog 180 #[v] w fun e w'=>e=.returned (.tuple #[])∧Y9 w' base v ls.reverse∧Below base w w'∧J0 35 w w':=by
 obtain ⟨ys,rfl,hrow,hys⟩:=h
 rw [List.length_map] at hl
 obtain ⟨h1,h2⟩:=id hrow
 by_cases h0:ys.length=0
 ·obtain rfl:=List.length_eq_zero_iff.1 h0
  obtain ⟨oa,cap,rfl⟩:∃ oa cap,v=.slice oa 0 cap:=by
   rcases h2 with ⟨h3,_⟩ | ⟨g,cap,cur,h3,_⟩
   ·exact ⟨none,0,h3⟩
   ·exact ⟨_,cap,h3⟩
  refine (QhD oa cap w).mono ?_
  rintro e w' ⟨rfl,rfl⟩
  exact ⟨rfl,⟨[],rfl,hrow,hys⟩,Below.refl _ _,J0.refl _ _⟩
 ·rcases h2 with ⟨_,h0'⟩ | ⟨g,cap,cur,rfl,hbg,hg,hn,hm,hc,hx⟩
  ·omega
  ·have hr:Row w g 35 cur.toList:=by unfold Row;simpa using hg
   have hx':cur.toList.take ys.length=ys.map (·.v):=by simpa using hx
   have hcl:ys.length≤cur.toList.length:=by simp;omega
   refine (Qi3 ys.length g cap cur.toList w (by omega) hr hcl hl (fun t x ht hxt=>?_)).mono ?_
   ·have e:=congrArg (fun l:List Value=>l[t]?) hx'
    simp only [List.getElem?_take,if_pos ht,List.getElem?_map] at e
    rw [hxt] at e
    obtain ⟨y,hy,rfl⟩:∃ y,ys[t]?=some y∧y.v=x:=by
     cases hyt:ys[t]? with
     | none=>rw [hyt] at e;simp at e
     | some y=>rw [hyt] at e;exact ⟨y,rfl,by simpa using e.symm⟩
    obtain ⟨oa,c,hs,_⟩:=(hys y (List.mem_of_getElem? hy)).shape
    exact ⟨oa,_,c,hs⟩
   ·rintro e w' ⟨rfl,hgr,c,hr',hlen,htk⟩
    have hk:J0 35 w w':=ZM (v:=.slice (some ⟨g,0,none⟩) ys.length cap) hrow (by simpa [Value.ownBlock] using hgr)
    refine ⟨rfl,⟨ys.reverse,by rw [List.map_reverse],⟨by simp,.inr ⟨g,cap,c.toArray,by simp,hbg,hr',by simpa using hn,hm,by simp at hlen ⊢;omega,?_⟩⟩,fun y hy=>hk.owns (hys y (by simpa using hy)) (by decide)⟩,
     (Below.refl base w).grown hgr hb (fun k hk=>by obtain rfl:=Option.some.inj hk;exact hbg),hk⟩
    simpa [hx'] using htk
theorem QiV (bs:List Bool) (v:Value) (base:Nat) (w:World) (h:Za w base v bs) (hb:base≤w.heap.size) (hl:bs.length≤1000000) :
  Calls Tryz.prog 193 #[v] w fun e w'=>e=.returned (.tuple #[])∧Za w' base v bs.reverse∧Below base w w'∧J0 4 w w':=by
 have hrow:=h
 obtain ⟨h1,h2⟩:=h
 by_cases h0:bs.length=0
 ·obtain rfl:=List.length_eq_zero_iff.1 h0
  obtain ⟨oa,cap,rfl⟩:∃ oa cap,v=.slice oa 0 cap:=by
   rcases h2 with ⟨h3,_⟩ | ⟨g,cap,cur,h3,_⟩
   ·exact ⟨none,0,h3⟩
   ·exact ⟨_,cap,h3⟩
  refine (QhK oa cap w).mono ?_
  rintro e w' ⟨rfl,rfl⟩
  exact ⟨rfl,hrow,Below.refl _ _,J0.refl _ _⟩
 ·rcases h2 with ⟨_,h0'⟩ | ⟨g,cap,cur,rfl,hbg,hg,hn,hm,hc,hx⟩
  ·omega
  ·have hr:Row w g 4 cur.toList:=by unfold Row;simpa using hg
   have hx':cur.toList.take bs.length=bs.map Value.bool:=by simpa using hx
   have hcl:bs.length≤cur.toList.length:=by simp;omega
   refine (Qh3 bs.length g cap cur.toList w (by omega) hr hcl hl (fun t x ht hxt=>?_)).mono ?_
   ·have e:=congrArg (fun l:List Value=>l[t]?) hx'
    simp only [List.getElem?_take,if_pos ht,List.getElem?_map] at e
    rw [hxt] at e
    cases hyt:bs[t]? with
    | none=>rw [hyt] at e;simp at e
    | some y=>rw [hyt] at e;exact ⟨y,by simpa using e⟩
   ·rintro e w' ⟨rfl,hgr,c,hr',hlen,htk⟩
    have hk:J0 4 w w':=ZM (v:=.slice (some ⟨g,0,none⟩) bs.length cap) hrow (by simpa [Value.ownBlock] using hgr)
    refine ⟨rfl,⟨by simp,.inr ⟨g,cap,c.toArray,by simp,hbg,hr',by simpa using hn,hm,by simp at hlen ⊢;omega,?_⟩⟩,
     (Below.refl base w).grown hgr hb (fun k hk=>by obtain rfl:=Option.some.inj hk;exact hbg),hk⟩
    simpa [hx'] using htk
theorem QhB (oa:Option Addr) (n c:Nat) (w:World):Calls Tryz.prog 179 #[.slice oa n c] w fun e w'=>e=.returned (.bool ((n:Int) != 32))∧w'=w:=by
 go_enter Tryz.func179,Tryz.ntmps179
 go_wp2
 go_ret
 exact ⟨rfl,rfl⟩
theorem Qdg (ls:List (List (BitVec 8))) (v:Value) (N:Nat) (w:World) (h:Jf w N v ls) (hl:ls.length<2305843009213693952) :
  Calls Tryz.prog 194 #[v,.func (.func 179) #[] #[]] w fun e w'=>w'=w∧∃ i:Int,e=.returned (.int .i64 i)∧(0≤i↔∃ d∈ls,d.length≠32):=by
 obtain ⟨oa,ca,rfl,hca⟩:=h.shape
 have HL:=hid h
 clear h
 generalize hn:ls.length=n at *
 have HN:=hid hn
 clear hn
 go_enter Tryz.func194,Tryz.ntmps194
 go_wp2_with fail
 go_loopw [8] (fun s8 wr=>∃ k:Nat,k≤n∧s8=.int .i64 (k:Int)∧wr=w∧Hid (∀ d∈ls.take k,d.length=32)) (fun s8 _=>n-(intOf s8).toNat)
 case atStart=>exact ⟨0,Nat.zero_le _,rfl,rfl,hid (by simp)⟩
 case round =>
  obtain ⟨k,hk,rfl,hwr,HR⟩:=hrel
  subst hwr
  by_cases hlt:k<n
  ·have hlt':(k:Int)<(n:Int):=by omega
   have hl2:Jf wr N (.slice oa ls.length ca) ls:=by rw [HN.out];exact HL.out
   obtain ⟨b,o,rfl,hc⟩:=hl2.some (by rw [HN.out];omega)
   obtain ⟨hbN,x,hx,hbx⟩:=hc k (by rw [HN.out];exact hlt)
   obtain ⟨od,cd,rfl,_⟩:=hbx.shape
   obtain ⟨d,hd⟩:∃ d,ls.getD k []=d:=⟨_,rfl⟩
   have hdk:ls[k]?=some d:=by rw [← hd];exact getD_some _ _ _ (by rw [HN.out];exact hlt)
   rw [hd] at hx
   have HDK:=hid hdk
   have HF:=hid (QhB od d.length cd wr)
   clear hl2 hc hbx hd hdk
   by_cases h32:d.length=32
   ·have e2:((d.length:Int) != 32)=false:=by simp;omega
    rw [e2] at HF
    have HTK:=hid (show ∀ d'∈ls.take (k+1),d'.length=32 from fun d' hd'=>by
     rw [List.take_add_one,HDK.out] at hd'
     rcases List.mem_append.1 hd' with hd' | hd'
     ·exact HR.out d' hd'
     ·obtain rfl:d'=d:=by simpa using hd'
      exact h32)
    clear e2 h32
    go_wp2_with fail
    refine HF.out.mono ?_
    rintro e w5 ⟨rfl,hw5⟩
    obtain rfl:=hw5.symm
    go_wp2_with fail
    exact ⟨⟨k+1,by omega,by go_num,by trivial,HTK⟩,by simp [intOf];omega⟩
   ·have e2:((d.length:Int) != 32)=true:=by simp;omega
    rw [e2] at HF
    have H32:=hid h32
    clear e2 h32
    go_wp2_with fail
    refine HF.out.mono ?_
    rintro e w5 ⟨rfl,hw5⟩
    obtain rfl:=hw5.symm
    go_wp2
    go_ret
    exact ⟨rfl,_,rfl,fun _=>⟨d,List.mem_of_getElem? HDK.out,H32.out⟩,fun _=>by omega⟩
  ·have hge:decide ((k:Int)<(n:Int))=false:=by simp;omega
   go_wp2
   go_ret
   refine ⟨rfl,_,rfl,fun h=>absurd h (by decide),?_⟩
   rintro ⟨d,hd,hne⟩
   exact absurd (HR.out d (by rw [List.take_of_length_le (by rw [HN.out];omega)];exact hd)) hne
theorem Qd7 (ls:List (List (BitVec 8))) (v:Value) (N:Nat) (w:World) (h:Jf w N v ls) (hl:ls.length<2305843009213693952) :
  Calls Tryz.prog 178 #[v,.func (.func 179) #[] #[]] w fun e w'=>w'=w∧∃ b,e=.returned (.bool b)∧(b=true↔∃ d∈ls,d.length≠32):=by
 have HI:=hid (Qdg ls v N w h hl)
 obtain ⟨oa,ca,rfl,hca⟩:=h.shape
 clear h
 go_enter Tryz.func178,Tryz.ntmps178
 go_wp2_with fail
 refine HI.out.mono ?_
 rintro e w5 ⟨hw5,i,rfl,hi⟩
 obtain rfl:=hw5.symm
 have HII:=hid hi
 clear hi
 go_wp2
 go_ret
 refine ⟨rfl,_,rfl,?_⟩
 rw [decide_eq_true_iff]
 exact HII.out
end Go.Proofs.YtooemgkjkngpcaaGreatDoor
