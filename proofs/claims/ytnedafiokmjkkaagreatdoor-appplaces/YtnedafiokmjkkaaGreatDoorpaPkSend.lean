/- A packet is sent. -/
import Derived.Test.YtnedafiokmjkkaaGreatDoorpaApBack
namespace Go.Proofs.YtnedafiokmjkkaaGreatDoor
open Tryz
set_option maxRecDepth 1000000
set_option maxHeartbeats 8000000
open Go.RowKit
variable {W w w' w1:World} {c0 sv v v1 v2 v3 v4 v5 v6 v7:Value} {l:List (BitVec 8)} {B N g i k n:Nat} {ch h te:Int} {o:Oper} {P:Program} {Q:Exit→Act→World→Prop} {oa:Option Addr} {cs xs:List Value} {s:St} {fn:Func} {R:Ending→World→Prop} {a:Act} {t t':TypeId} {Z:Nat→Prop} {X:World→Prop}
theorem Qbq (n:Nat) (hn:n<9223372036854775808) (w:World):Calls prog 155 #[Bb (n:Int)] w fun e w'=>e=.returned (.agg #[Bb 1,.int .u64 (n:Int),Bc])∧Bd w w':=by
 have hw:=wrap64 n (by omega)
 obtain ⟨w0,d⟩:∃ w0,w.alloc (.cells #[Bb 0,.int .u64 0,Bc] 184)=w0:=⟨_,rfl⟩;have j:=hid (show Bd w w0 by rw [← d];exact (Bi _ _).alloc (Bj _) _)
 have b:=hid (QiI d);obtain ⟨c0,c1,c2,z0,z1,z2⟩:=b.out.three
 go_in
 go_wp2;obtain ⟨d0,d1,d2⟩:=b.out.set3 (Bb 1) (.int .u64 (n:Int)) (Bc);exact BK (v:=.agg #[Bb 1,.int .u64 (n:Int),Bc]) (by simp [results,results155,go_sem,d0,d1,d2]) rfl ⟨rfl,JL j.out (Bj _) _ _ _⟩
def Qvl (f:FuncId):Prop:=∀ (p:Pk) (v:Value) (N:Nat) (w:World),Qi w→PkV w N v p→N≤w.heap.size→Qy p=0→Calls prog f #[v] w fun e w'=>∃ x,e=.returned x∧Qq w' w.heap.size x (Jd p)∧Bd w w'
theorem QgD (l:Bg) (sv:Value) (N:Nat) (w:World) (hN:N≤w.heap.size) (hb:Bytes w N sv l) (hK:Qi w) (b:l.length<2305843009213693952) :
  Calls prog 130 #[sv] w fun e w'=>∃ v,e=.returned v∧Qq w' w.heap.size v (sha l)∧Bd w w':=by
 refine (QkP l sv N w hN hb hK b).mono ?_;rintro e w' ⟨v,rfl,h,hb⟩;refine ⟨v,rfl,?_,hb⟩;unfold Qq;rw [QQ];exact h
theorem Qcc {base base':Nat} (h:Qq w base v l) (hb:base'≤base):Qq w base' v l:=by
 obtain ⟨h1,h2⟩:=h;refine ⟨h1,?_⟩
 rcases h2 with h2 | ⟨g,cap,cur,h3,h4,h5⟩
 ·exact .inl h2
 ·exact .inr ⟨g,cap,cur,h3,Bh hb h4,h5⟩
theorem Qsh: Qvl 120:=by
 intro p v N w z hv hN hw;obtain ⟨f1,f2,f3,f4,f5⟩:=YY hw;obtain ⟨A,hx1,d⟩:=QvO hw;obtain ⟨od,cd,rfl,hd⟩:=hv.open;obtain ⟨a,b,q,l,t⟩:=p;simp only at f1 f2 f3 f4 f5 hd;obtain ⟨a,rfl⟩:∃ n:Nat,a=(n:Int):=⟨a.toNat,by omega⟩
 obtain ⟨b,rfl⟩:∃ n:Nat,b=(n:Int):=⟨b.toNat,by omega⟩
 obtain ⟨q,rfl⟩:∃ n:Nat,q=(n:Int):=⟨q.toNat,by omega⟩
 obtain ⟨t,rfl⟩:∃ n:Nat,t=(n:Int):=⟨t.toNat,by omega⟩
 have L:=hid (show Jd ⟨(a:Int),(b:Int),(q:Int),l,(t:Int)⟩=sha (pkB ⟨(a:Int),(b:Int),(q:Int),l,(t:Int)⟩) from rfl);generalize pkB ⟨(a:Int),(b:Int),(q:Int),l,(t:Int)⟩=x at *
 have S:=hid (fun X W (h:JC W W.heap.size X [⟨1,a,[]⟩,⟨1,b,[]⟩,⟨1,q,[]⟩,⟨2,0,l⟩,⟨1,t,[]⟩])=>show Calls prog 121 #[X] W fun e w'=>∃ v,e=.returned v∧Bd W w'∧WrB x v w' from (Qdw _ _ W.heap.size W h (Bj _) (by simp) d).mono (by
  rintro e w2 ⟨m,⟨x2,v,d,rfl,ho⟩ | ⟨c,i,d,_⟩⟩
  ·cases A.symm.trans d
   obtain ⟨o,k,rfl,-⟩:=ho.shape;exact ⟨_,rfl,m,o,_,k,0,0,rfl,ho.bytes⟩
  ·cases A.symm.trans d))
 have HD:=hid hd;have HT:=hid z;clear A d hd z hv hw
 go_in
 go_upto_region 1 with fail
 refine JN ?_;intro w0 F hs;have aB:=Bh hN F.b.size;replace HD:=hid ((HD.out.below (F.b.mono hN)).mono aB);have HL:=hid F.lts;have HF:=hid F;clear F hs;apply JQ 22 (by kernel_rfl) (fun W hb=>(HF.out.go hb).r0.cell) (by kernel_rfl)
 ·intro σ;simp [Qj];exact rfl
 iterate 2 (apply RK.val rfl;· intro σ W hb hc ⟨hd,hu⟩;simp at hd hu;go_simp;exact rfl)
 apply RK.callV rfl
 ·intro σ W hb hc ⟨hd,hu⟩;simp at hd hu;go_simp;exact ⟨rfl,rfl⟩
 ·intro W _ _;exact Qbq _ (by omega) W
 iterate 2 (apply RK.val rfl;· intro σ W hb hc ⟨hd,hu⟩;simp at hd hu;go_simp;exact rfl)
 apply RK.callV rfl
 ·intro σ W hb hc ⟨hd,hu⟩;simp at hd hu;go_simp;exact ⟨rfl,rfl⟩
 ·intro W _ _;exact Qbq _ (by omega) W
 iterate 2 (apply RK.val rfl;· intro σ W hb hc ⟨hd,hu⟩;simp at hd hu;go_simp;exact rfl)
 apply RK.callV rfl
 ·intro σ W hb hc ⟨hd,hu⟩;simp at hd hu;go_simp;exact ⟨rfl,rfl⟩
 ·intro W _ _;exact Qbq _ (by omega) W
 iterate 5 (apply RK.val rfl;· intro σ W hb hc ⟨hd,hu⟩;simp at hd hu;go_simp;exact rfl)
 apply RK.callV rfl
 ·intro σ W hb hc ⟨hd,hu⟩;simp at hd hu;go_simp;exact ⟨rfl,rfl⟩
 ·intro W _ _;exact Qbq _ (by omega) W
 apply RK.new (QjX [⟨1,a,[]⟩,⟨1,b,[]⟩,⟨1,q,[]⟩,⟨2,0,l⟩,⟨1,t,[]⟩]) (QjX.stay _) rfl
 ·intro σ W hb hc ⟨hd,hu⟩;simp at hd hu
  have HH:=hid (Qei W 184 [(⟨1,a,[]⟩,Bc),(⟨1,b,[]⟩,Bc),(⟨1,q,[]⟩,Bc),(⟨2,0,l⟩,.slice od l.length cd),(⟨1,t,[]⟩,Bc)] (by
   intro x hx;simp at hx
   rcases hx with rfl | rfl | rfl | rfl | rfl
   iterate 3 exact .inl ⟨rfl,rfl⟩
   ·exact (HD.out.below hb).mono hb.size
   ·exact .inl ⟨rfl,rfl⟩))
  exact ⟨_,_,by go_simp <;> first | exact rfl | exact ⟨rfl,rfl⟩,(Bi _ _).alloc (Bj _) _,HH.out⟩
 apply RK.callG (WrB x) (WrB.stay _) rfl
 ·intro σ W hb hc ⟨hd,hu⟩;simp at hd hu
  have HH:=hid (S.out (σ 15) W (by first | exact hd | exact hd.1))
  clear hd;exact ⟨_,_,by go_simp <;> first | exact rfl | exact ⟨rfl,rfl⟩,HH.out⟩
 apply RK.new (WrB x) (WrB.stay _) rfl
 ·intro σ W hb hc ⟨hd,hu⟩;simp at hd hu
  have HH:=hid hd;clear hd;exact ⟨σ 16,W,by go_simp,Bi _ _,HH.out⟩
 apply RK.new (ByB x) (ByB.stay _) rfl
 ·intro σ W hb hc ⟨hd,hu⟩;simp at hd hu
  obtain ⟨o,n,k,c,i,e,h⟩:=hd;have HH:=hid h;clear h;exact ⟨_,W,by go_simp <;> exact rfl,Bi _ _,o,n,k,rfl,HH.out⟩
 apply RK.new FaB FaB.stay rfl
 ·intro σ W hb hc ⟨hd,hu⟩;simp at hd hu
  obtain ⟨o,n,k,c,i,e,h⟩:=hd;clear h;exact ⟨_,W,by go_simp <;> exact rfl,Bi _ _,c,i,rfl⟩
 apply RK.new (Qk0 w0.heap.size) (Qk0.stay _) rfl
 ·intro σ W hb hc ⟨hd,hu⟩;simp at hd hu
  have HH:=hid (Row.new W 180 [Bb 0,Bb 0]);have hz:=hb.size;exact ⟨_,_,by go_simp <;> first | exact rfl | exact ⟨rfl,rfl⟩,(Bi _ _).alloc (Bj _) _,W.heap.size,rfl,hz,HH.out⟩
 apply RK.new (ByB x) (ByB.stay _) rfl
 ·intro σ W hb hc ⟨hd,hu⟩;simp at hd hu
  obtain ⟨o,n,k,e,h⟩:=hd.1;have HH:=hid h;clear h;exact ⟨_,W,by go_simp <;> exact rfl,Bi _ _,o,n,k,rfl,HH.out⟩
 intro σ W hb _;simp only [Jm,Bv,Bz,Nat.reduceAdd];intro hF;obtain ⟨-,-,-,-,-,-,-,-,-,-,-,-,-,-,-,-,-,-,-,⟨c,i,T⟩,⟨k,Y,hk,C⟩,⟨o,n,cc,aA,D⟩,-⟩:=hF;have O:=((JG.refl k W).cell 0 (Bb c)).cell 1 (Bb i);have F1:=(HF.out.go hb).past (O.down (Bi _ W) hk) HF.out.b.size HL.out;have E:=(D.only C rfl O.same).mono (Dt O.size.symm);have j:=hid F1;have I:=hid E;obtain ⟨z0,z1,z2,z3⟩:=C.two;clear hb C D E F1 O;simp only [BV,BT,T,Y,aA]
 go_upto_region 2 with fail
 generalize (W.setCell ⟨k,0,none⟩ (Bb c)).setCell ⟨k,1,none⟩ (Bb i)=w1 at *;have M:=hid (QgD x _ w1.heap.size w1 (Bj _) I.out (HT.out.past j.out.b) (by omega))
 go_wp2_with fail
 refine M.out.mono ?_;rintro e w2 ⟨v,rfl,ho,m⟩;have HO:=hid ho;have G:=hid m;clear ho m;go_wp2;go_ret;exact ⟨_,rfl,by rw [L.out];exact Qcc HO.out j.out.b.size,j.out.b.trans (G.out.mono j.out.b.size)⟩
structure AtM (l:List Mk) (ch seq:Int) (i:Nat) (fd:Bool):Prop where
 le:i≤l.length
 lo:∀ t p,t<i→l[t]?=some p→Qw p ⟨ch,seq,[]⟩=true
 hi:∀ t p,i≤t→l[t]?=some p→Qw p ⟨ch,seq,[]⟩=false
 fd:fd=true↔∃ p,l[i]?=some p∧p.chan=ch∧p.seq=seq
theorem Qix {l:List Mk} {q:Mk→Bool} (hi:i≤l.length) (h1:∀ t p,t<i→l[t]?=some p→q p=true) (h2:∀ t p,i≤t→l[t]?=some p→q p=false):(l.filter q).length=i:=by
 have e:l=l.take i ++ l.drop i:=(CS i l).symm;rw [e,DR,Bs]
 have k1:(l.take i).filter q=l.take i:=CT.2 fun p hp=>by
  obtain ⟨t,ht⟩:=Di hp;rw [BH] at ht
  split at ht
  ·rename_i b
   exact h1 t p b ht
  ·cases ht
 have k2:(l.drop i).filter q=[]:=Cq.2 fun p hp=>by
  obtain ⟨t,ht⟩:=Di hp;rw [Cp] at ht;have:=h2 (i+t) p (by omega) ht
  simp [this]
 rw [k1,k2,C2];simp;omega
theorem AtM.place {l:List Mk} {seq:Int} {fd:Bool} (h:AtM l ch seq i fd) (hs:QaP l):i=Yf l ch seq∧fd=(ZL l ch seq).isSome:=by
 have hp:Yf l ch seq=i:=Qix h.le h.lo h.hi;refine ⟨hp.symm,?_⟩
 cases hm:ZL l ch seq with
 | some m =>
  have:=(Qe0 (x:=⟨ch,seq,[]⟩) hs hm).1;simp only [hp] at this;have hk:=QtR hm;exact h.fd.2 ⟨m,this,hk.2⟩
 | none =>
  cases hf:fd with
  | false=>rfl
  | true =>
   obtain ⟨p,h1,h2⟩:=h.fd.1 hf;exact absurd h2 (Qfw hm p (Bn h1))
def Qra (a:Mk) (ch seq:Int):Int:=orN [Qb0 a.chan ch,Qb0 a.seq seq]
theorem Qg3 (a:Mk) (ch seq:Int):Qra a ch seq<0↔Qw a ⟨ch,seq,[]⟩=true:=by
 have:=Qhz a ⟨ch,seq,[]⟩;rw [this];simp [Qra]
theorem Qpm (a:Mk) (ch seq:Int):Qra a ch seq=0↔a.chan=ch∧a.seq=seq:=by
 unfold Qra;rw [JS];simp only [Bo,BL,BN,Cu,CO];unfold Qb0
 constructor
 ·rintro ⟨h1,h2⟩
  refine ⟨?_,?_⟩
  ·split at h1
   ·cases h1
   ·split at h1
    ·cases h1
    ·omega
  ·split at h2
   ·cases h2
   ·split at h2
    ·cases h2
    ·omega
 ·rintro ⟨rfl,rfl⟩
  simp
theorem QlX (l:List Mk) (ch seq:Int) (sv:Value) (N:Nat) (w:World) (hN:N≤w.heap.size) (hl:Qt MkR 3 w N sv l) (hs:QaP l) (b:l.length≤1000000) :
  Calls prog 196 #[sv,.agg #[Bb ch,Bb seq,Bc],.func (.func 26) #[] #[]] w fun e w'=>Bd w w'∧∃ i fd,AtM l ch seq i fd∧e=.returned (.tuple #[Bb (i:Nat),.bool fd]):=by
 obtain ⟨rs,he,hr,hR⟩:=hl;refine (Qgc.1.list Qh6 (fun v:Mk=>Qra v ch seq) l rs [Bb ch,Bb seq,Bc] hN hr (fun r h=>?_) rfl he b (List.Pairwise.imp (fun h=>?_) hs) fun i r p W hr hp hb=>?_).mono ?_
 ·obtain ⟨i,hi,rfl⟩:=Dx h
  obtain ⟨v,e,_⟩:=hR i _ _ (Bk hi) (Bk (by omega))
  rw [e];rfl
 ·simp only [Qg3];exact fun h2=>Qca h h2
 ·obtain ⟨v,rfl,hv⟩:=hR i r p hr hp
  obtain ⟨od,cd,rfl,-⟩:=hv.shape;exact QbG p ⟨ch,seq,[]⟩ od none cd 0 W
 ·rintro e w' ⟨hb,i,fd,⟨h1,h2,h3,h4⟩,rfl⟩
  exact ⟨hb,i,fd,⟨h1,fun t p ht hp=>(Qg3 p ch seq).1 (h2 t p ht hp),fun t p ht hp=>by simpa [← Int.not_lt,Qg3] using h3 t p ht hp,by simpa [Qpm] using h4⟩,rfl⟩
theorem Qdt (l:List Mk) (ch seq:Int) (sv:Value) (N:Nat) (w:World) (hN:N≤w.heap.size) (hl:Qt MkR 3 w N sv l) (hs:QaP l) (d:l.length≤1000000) :
  Calls prog 153 #[sv,Bb ch,Bb seq] w fun e w'=>e=.returned (.tuple #[Bb (Yf l ch seq:Nat),.bool (ZL l ch seq).isSome])∧Bd w w':=by
 obtain ⟨oa,ca,rfl,hca⟩:=hl.shape;have HC:=hid (QlX l ch seq _ N w hN hl hs d);have HS:=hid hs;clear hl hs
 go_in
 go_wp2_with fail
 refine HC.out.mono ?_;rintro e w2 ⟨hb,i,fd,b,rfl⟩;obtain ⟨rfl,rfl⟩:=b.place HS.out;have HB:=hid hb;clear hb b;go_wp2;go_ret2;exact ⟨rfl,HB.out⟩
theorem QlT (ps:List (List Value)) (i base:Nat) (v:Value) (w:World) (h:Qf 90 3 w base v ps) (hi:i<ps.length) (j:Nat) (hj:j=i+1) :
  Calls prog 169 #[v,Bb (i:Int),Bb (j:Int)] w fun e w'=>w.grownBy w' v.ownBlock∧∃ v',e=.returned v'∧Qf 90 3 w' base v' (ps.take i ++ ps.drop (i+1))∧v'.ownBlock=v.ownBlock :=
 Qou.2.1 QnJ (Qo0 (z0:=.agg #[Bb 0,Bb 0,Bc]) (by kernel_rfl) (by simp [Value.cells])) ps i base v w h hi j hj
theorem Qid (l:List Mk) (x:Mk) (od:Option Addr) (nd cd:Nat) (v:Value) (base:Nat) (w:World) (rs:List (List Value)) (d:Qf 90 3 w base v rs) (hE:MkE w rs l) (hs:QaP l) (hl:l.length≤1000) (hb:base≤w.heap.size) :
  Calls prog 119 #[v,.agg #[Bb x.chan,Bb x.seq,.slice od nd cd]] w fun e w'=>w.grownBy w' v.ownBlock∧∃ v' aE,e=.returned v'∧Qf 90 3 w' base v' aE∧(∀ b,v'.ownBlock=some b→v.ownBlock=some b∨w.heap.size≤b)∧∀ w2,MkE w2 rs l→Bytes w2 w2.heap.size (.slice od nd cd) x.dig→MkE w2 aE (QW l x):=by
 have L:=hid (fun wx (hx:Bd w wx)=>Qdt l x.chan x.seq v wx.heap.size wx (Bj _) (QaZ (d.below hx) ⟨hE.1,fun i r y hr hy=>MkR.stays.mono (MkR.stays.below (hE.2 i r y hr hy) hx) hx.size⟩) hs (by omega))
 have j:=hid hE.1;obtain ⟨oa,ca,rfl,hca⟩:=d.shape;have HR:=hid d;have HS:=hid hs;clear d hE hs;have hp:=Qsj l x.chan x.seq;have hpl:(Yf l x.chan x.seq:Int)≤1000:=by omega
 go_in
 go_upto_region 1 with fail
 refine JN ?_;intro w0 F aJ;obtain ⟨k0,k1,k2⟩:=F.r0.k3
 go_wp2_with fail
 refine (L.out w0 F.b).mono ?_;rintro e w1 ⟨rfl,S⟩;have F1:=F.go S;clear k0 k1 k2 aJ F S L;have HF1:=hid F1.b;obtain ⟨k0,k1,k2⟩:=F1.r0.k3
 cases hm:ZL l x.chan x.seq with
 | some m =>
  obtain ⟨h1,h2,-⟩:=Qe0 HS.out hm;have q:=j.out;have hlt:Yf l x.chan x.seq<l.length:=(Bm.1 h1).1;obtain ⟨r,hr⟩:∃ r,rs[Yf l x.chan x.seq]?=some r:=⟨_,Bk (by omega)⟩
  obtain ⟨g,rfl,hgb,hgl,D,E⟩:=Qf.at (HR.out.below F1.b) hr;have aC:=(HR.out.1 r (Bn hr)).1
  obtain ⟨r0,r1,r2,rfl⟩:∃ r0 r1 r2,r=[r0,r1,r2]:=by
   match r,aC with
   | [a,b,c],_=>exact ⟨a,b,c,rfl⟩
  have f0:=D 0 _ rfl;have f1:=D 1 _ rfl;have f2:=D 2 _ rfl;simp only [BM] at f0;generalize z:Yf l x.chan x.seq=k at *;have z0:=E (k*3);have z1:=E (k*3+1);have z2:=E (k*3+2);have hlt':(k:Int)<(rs.length:Int):=by omega
  have G:=Qf.put (HR.out.below F1.b) (i:=k) (r:=[Bb x.chan,Bb x.seq,.slice od nd cd]) (by omega) ⟨rfl,fun y hy=>by simp at hy;rcases hy with rfl | rfl | rfl <;> rfl⟩
  have HG:=hid (show w.grownBy (w1.setCells g (k*3) [Bb x.chan,Bb x.seq,.slice od nd cd]) (some g) from Qo (QlC F1.b _) (Q3 w1 g (k*3) _));have HP:=hid G;have HW:=hid h2;have HK:=hid z;clear G h1 h2 D E hr z hm HS aC q j;generalize rs.length=n at *;obtain ⟨w4,I⟩:∃ w4,w1.setCells g (k*3) [Bb x.chan,Bb x.seq,.slice od nd cd]=w4:=⟨_,rfl⟩;rw [I] at HG HP;have aI:=hid I;clear I
  have aA:w.heap.size≠g:=by
   have:=F1.own _ (.head _);have h2:=HR.out.own g rfl;omega
  clear F1
  go_upto_region 4 with fail
  refine Qac aI.out ?_;clear k0 k1 k2 f0 f1 f2 z0 z1 z2;go_wp2;go_ret;exact ⟨HG.out,_,_,rfl,HP.out,fun b e=>.inl e,fun w2 g1 g2=>by rw [← HW.out];exact g1.set ⟨_,rfl,g2⟩⟩
 | none =>
  have q:=j.out;obtain ⟨h1,-⟩:=Qsk HS.out hm;have HW:=hid h1;have aG:=hid (HR.out.below F1.b);have aD:=F1.b.size;generalize z:Yf l x.chan x.seq=k at *;have aF:=hid HR.out.own;have M:=hid (fun wx vb (hx:Bd w1 wx) (hv:Row wx vb 90 [Bb x.chan,Bb x.seq,.slice od nd cd]) (aA:∀ g,(Value.slice oa rs.length ca).ownBlock=some g→vb≠g)=>QlV rs k (Bb x.chan) (Bb x.seq) (.slice od nd cd) base vb (.slice oa rs.length ca) wx (aG.out.below hx) (Bh hb (Bh aD hx.size)) hv ⟨rfl,rfl,rfl⟩ aA (by omega) (by omega))
  have HPK:=hid z;clear hm h1 z HS q;generalize hn:rs.length=n at *;have HN:=hid hn;clear hn;have HF:=hid F1
  go_wp2_with fail
  refine QbW ?_;intro w2 aB C;refine (M.out w2 _ C aB (fun g e=>by have:=aF.out g e;omega)).mono ?_
  rintro e w3 ⟨T,v',rfl,A,Y⟩;have HG:=hid (show w.grownBy w3 (Value.slice oa n ca).ownBlock from Qo (QlC (HF.out.b.trans (C.mono HF.out.b.size)) _) T);have aH:=hid A;have O:=hid (show ∀ b,v'.ownBlock=some b→(Value.slice oa n ca).ownBlock=some b∨w.heap.size≤b from fun b e=>(Y b e).imp id (fun h=>by have:=C.size;omega))
  clear T A Y aB C k0 k1 k2 F1;go_wp2;go_ret;rw [← HN.out] at HG O;exact ⟨HG.out,_,_,rfl,aH.out,O.out,fun w2 g1 g2=>by rw [← HW.out];exact g1.ins hp ⟨_,rfl,g2⟩⟩
structure Two (a b:Nat) (w W:World):Prop where
 below:Below 0 w W
 same:∀ k,k≠a→k≠b→W.heap[k]?=w.heap[k]?
 size:W.heap.size=w.heap.size
theorem Two.drew (a b:Nat) (w:World):Two a b w w.drew:=⟨(Bi _ _).drew,fun _ _ _=>rfl,rfl⟩
theorem Two.row {a b:Nat} (h:Two a b w W) (cs:Array Value) (hg:g=a∨g=b):Two a b w (W.setRow g cs) :=
 ⟨h.below.trans ⟨rfl,rfl,rfl,by simp,fun k hk=>absurd hk (by omega)⟩,fun k h1 h2=>(BW _ _ _ _ (by omega)).trans (h.same k h1 h2),(by simp:(W.setRow g cs).heap.size=W.heap.size).trans h.size⟩
def Qvq (fr:(Nat→Value)→Array Value) (PC:Value→World→Prop) (i:Nat) (σ:Nat→Value) (a':Act) (w':World):Prop:=∃ v,a'=⟨fr (Qn σ i v),[]⟩∧PC v w'
def Qvp (fr:(Nat→Value)→Array Value) (u:Value) (W:World) (i:Nat) (σ:Nat→Value) (a':Act) (w':World):Prop:=a'=⟨fr (Qn σ i u),[]⟩∧w'=W
def Qvo (fr:(Nat→Value)→Array Value) (PE:World→Prop) (i:Nat) (σ:Nat→Value) (a':Act) (w':World):Prop:=∃ v,a'=⟨fr (Qn σ i v),[]⟩∧PE w'
def QaC (l:List Oper) (j i:Nat):Bool:=match l[j]? with
 | some o=>o.after.toList.any fun d=>Region.binds .any d && d.on == i
 | none=>false
def QuH (l:List Oper) (n:Nat):Bool:=decide (l.length=n+3) && (Za 0 l && ((List.range n).all (fun i=>(List.range (n+1)).any fun j=>decide (i<j) && QaC l j i) && (QaC l (n+2) n && QaC l (n+2) (n+1))))
def Qa8 (l:List Oper) (s:Array Bool):Prop:=∀ i o,l[i]?=some o→s.getD i false=true→∀ d∈o.after,Region.binds .any d=true→s.getD d.on false=true
theorem QfR {l:List Oper} {j:Nat} (h:QaC l j i=true):∃ o d,l[j]?=some o∧d∈o.after∧Region.binds .any d=true∧d.on=i:=by grind [QaC]
theorem Qa8.ask {l:List Oper} {s:Array Bool} (h:Qa8 l s) {j:Nat} (ha:QaC l j i=true) (hj:s.getD j false=true):s.getD i false=true:=by grind [Qa8,QaC]
theorem Qa8.set {l:List Oper} {s:Array Bool} (h:Qa8 l s) (ho:l[i]?=some o) (hd:∀ d∈o.after,Region.binds .any d=true→s.getD d.on false=true):Qa8 l (s.setIfInBounds i true):=by
 have up:∀ k,s.getD k false=true→(s.setIfInBounds i true).getD k false=true:=fun k hk=>by
  by_cases e:k=i
  ·subst e
   have:k<s.size:=by grind
   simp [this]
  ·rw [BP false (Ne.symm e)]
   exact hk
 intro j p hj hs d b hb
 by_cases e:j=i
 ·simp_all
 ·rw [BP false (Ne.symm e)] at hs
  exact up _ (h j p hj hs d b hb)
theorem Qe4 {l:List Oper} {a0:Act} (n:Nat) (hm:P.follows .mixedOrders=true) (fr:(Nat→Value)→Array Value) (σ0:Nat→Value) (h0:a0=⟨fr σ0,[]⟩) (u:Value)
  (G:Nat→Value→World→Prop) (Y:∀ i v w w',Bd w w'→G i v w→G i v w') (PC PE:Value→World→Prop) (hB:QuH l n=true)
  (aA:Zv P l.toArray Q fr G (fun a b=>Bd a b) (fun a=>Bd w a) 0 (l.take n))
  (hc:∀ (σ:Nat→Value) (W:World),Bd w W→(∀ i,i<n→G i (σ i) W)→wpOp P l.toArray Q n (Qvq fr PC n σ) ⟨fr σ,[]⟩ W)
  (hq:∀ (σ:Nat→Value) (W:World),wpOp P l.toArray Q (n+1) (Qvp fr u W (n+1) σ) ⟨fr σ,[]⟩ W)
  (he:∀ (σ:Nat→Value) (W:World),σ (n+1)=u→PC (σ n) W→wpOp P l.toArray Q (n+2) (Qvo fr (PE (σ n)) (n+2) σ) ⟨fr σ,[]⟩ W)
  (aH:∀ (σ:Nat→Value) (W:World),PE (σ n) W→σ (n+1)=u→Q .normal ⟨fr σ,[]⟩ W):(Code.region N l.toArray true).wp P Q a0 w:=by
 subst h0;simp only [QuH,BX,BS] at hB;obtain ⟨hln,aD,aL,aG,aI⟩:=hB
 have chain:∀ s:Array Bool,Qa8 l s→(∀ i,QaC l n i=true→s.getD i false=true)→∀ m i,n-i≤m→i<n→s.getD i false=true:=by
  intro s hs hn m
  induction m with
  | zero=>intro i h1 h2;omega
  | succ m ih =>
   intro i h1 h2;have:=C9.1 aL i (Cg.2 h2);obtain ⟨j,hj,h3⟩:=List.any_eq_true.1 this;rw [BX,BS] at h3;have M:=Cg.1 hj
   by_cases e:j=n
   ·simp_all
   ·exact hs.ask h3.2 (ih j (by omega) (by omega))
 refine Qa2 hm (fun s a W=>∃ σ,s.size=l.length∧a=⟨fr σ,[]⟩∧Qa8 l s∧(s.getD (n+1) false=true→σ (n+1)=u)∧(s.getD n false=false→Bd w W∧∀ i,i<n→s.getD i false=true→G i (σ i) W)∧(s.getD n false=true→s.getD (n+2) false=false→PC (σ n) W)∧(s.getD (n+2) false=true→PE (σ n) W)) ?_ ?_ ?_
 ·refine ⟨σ0,by simp,rfl,fun i o _ hi=>?_,fun hi=>?_,fun _=>⟨(Bi _ _).drew,fun i _ hi=>?_⟩,fun hi=>?_,fun hi=>?_⟩ <;> (rw [Ca] at hi;cases hi)
 ·rintro s a W ⟨σ,hs,rfl,C,hu,h1,h2,h3⟩ i hi
  obtain ⟨aQ,o,ho,A⟩:=BY.1 hi;have ho':l[i]?=some o:=by simp_all
  have O:i<l.length:=(Bm.1 ho').1;have L:s.getD i false=false:=getD_both aQ;have z:=C.set ho' A;have ne:∀ k,k≠i→(s.setIfInBounds i true).getD k false=s.getD k false:=fun k hk=>BP false (Ne.symm hk)
  have un:∀ k v,k≠i→Qn σ i v k=σ k:=fun k v hk=>by simp [Qn,hk]
  have I:(s.setIfInBounds i true).getD i false=true:=by simp [Array.getD,show i<s.size by omega]
  have aC:s.getD (n+2) false=true→s.getD n false=true:=fun h=>C.ask aG h
  rcases Eh i n with hlt | rfl | hgt
  ·have S:s.getD n false=false:=by
    cases hb:s.getD n false with
    | false=>rfl
    | true =>
     have:=chain s C (fun k hk=>C.ask hk hb) n i (by omega) hlt
     rw [L] at this
     cases this
   obtain ⟨hj,hg⟩:=h1 S;have q:=QR l 0 i o aD ho';have aK:=Zv.get (l.take n) 0 i o aA (by rw [BH,if_pos hlt];exact ho') σ W hj (fun d hd hb=>hg _ (by have:=q d hd hb;omega) (A d hd hb))
   rw [Bq] at aK;refine CB ?_ aK;rintro a2 w2 ⟨v,rfl,hr,aN,aM⟩;refine ⟨Qn σ i v,by simpa using hs,rfl,z,fun h=>?_,fun _=>⟨aN,fun j M D=>?_⟩,fun h=>?_,fun h=>?_⟩
   ·grind
   ·by_cases e:j=i
    ·subst e
     simpa [Qn] using aM
    ·rw [un _ _ e]
     rw [ne _ e] at D;exact Y j _ W w2 hr (hg j M D)
   ·rw [ne _ (by omega),S] at h
    cases h
   ·rw [ne _ (by omega)] at h
    have:=aC h;rw [S] at this
    cases this
  ·obtain ⟨hj,hg⟩:=h1 L
   have aE:∀ k,k<i→s.getD k false=true:=fun k hk=>chain s C (fun k hk=>by
    obtain ⟨o',d,E,hd,hb,e⟩:=QfR hk;obtain rfl:o=o':=by rw [ho'] at E;exact Bu E
    rw [← e]
    exact A d hd hb) i k (by omega) hk
   refine CB ?_ (hc σ W hj fun k hk=>hg k hk (aE k hk))
   rintro a2 w2 ⟨v,rfl,aO⟩;refine ⟨Qn σ i v,by simpa using hs,rfl,z,fun h=>?_,fun h=>?_,fun _ _=>?_,fun h=>?_⟩
   ·rw [un _ _ (by omega)]
    rw [ne _ (by omega)] at h
    exact hu h
   ·rw [I] at h
    cases h
   ·simpa [Qn] using aO
   ·rw [ne _ (by omega)] at h
    have:=aC h;rw [L] at this
    cases this
  ·by_cases e1:i=n+1
   ·subst e1
    refine CB ?_ (hq σ W);rintro a2 w2 ⟨rfl,rfl⟩;refine ⟨Qn σ (n+1) u,by simpa using hs,rfl,z,fun _=>by simp [Qn],fun h=>?_,fun h h'=>?_,fun h=>?_⟩
    ·rw [ne _ (by omega)] at h
     obtain ⟨hj,hg⟩:=h1 h;refine ⟨hj,fun j M D=>?_⟩
     rw [un _ _ (by omega)]
     rw [ne _ (by omega)] at D
     exact hg j M D
    ·rw [ne _ (by omega)] at h h'
     rw [un _ _ (by omega)]
     exact h2 h h'
    ·rw [ne _ (by omega)] at h
     rw [un _ _ (by omega)]
     exact h3 h
   ·obtain rfl:i=n+2:=by omega
    have T:∀ k,QaC l (n+2) k=true→s.getD k false=true:=fun k hk=>by
     obtain ⟨o',d,E,hd,hb,e⟩:=QfR hk;obtain rfl:o=o':=by rw [ho'] at E;exact Bu E
     rw [← e];exact A d hd hb
    have aJ:=T _ aG;refine CB ?_ (he σ W (hu (T _ aI)) (h2 aJ L));rintro a2 w2 ⟨v,rfl,aP⟩;refine ⟨Qn σ (n+2) v,by simpa using hs,rfl,z,fun _=>?_,fun h=>?_,fun _ h=>?_,fun _=>?_⟩
    ·rw [un _ _ (by omega)]
     exact hu (T _ aI)
    ·rw [ne _ (by omega),aJ] at h
     cases h
    ·rw [I] at h
     cases h
    ·rw [un _ _ (by omega)]
     exact aP
 ·rintro s a W ⟨σ,hs,rfl,C,hu,h1,h2,h3⟩ hr
  have aB:∀ n i,i<n→i<l.length→s.getD i false=true:=by
   intro n
   induction n with
   | zero=>intro i h;omega
   | succ n ih =>
    intro i hin O
    cases hb:s.getD i false with
    | true=>rfl
    | false =>
     exfalso;have ho:l[i]?=some l[i]:=Bk O;have q:=QR l 0 i _ aD ho;have:i∈Region.ready .any l.toArray s:=BY.2 ⟨getD_in (by rw [hs];exact O) hb,l[i],by simp,fun e he aF=>ih _ (by have:=q e he aF;omega) (by have:=q e he aF;omega)⟩
     rw [hr] at this
     cases this
  exact aH σ W (h3 (aB (n+3) (n+2) (by omega) (by omega))) (hu (aB (n+2) (n+1) (by omega) (by omega)))
theorem Que {A1 A2 A3 A4 A5 A6 A7 A8 A9 Aa Ab Ac Ad Ae Af Ag Ah Ai Aj Ak Al Am An Ao Ap Aq Ar As At Au Av Aw Ax Ay Az AA AB AC AD AE AF AG AH AI AJ AK AL AM AN AO AP AQ AR AS AT AU AV AW AX AY:Value} {x0 x1 x2 x3 x4 x5 x7 x8 x9 p0 p1 p3 p4:Value} {dig:Bg} (C:Hid (Row w N 28 [x0,x1,x2,x3,x4,x5,.slice oa k B,x7,x8,x9])) (A:Hid (Row w g 51 [p0,p1,Bb h,p3,p4]))  (z:∀ W,Bd w W→Calls prog 120 #[.agg #[p0,p1,Bb h,p3,p4]] W fun e w'=>∃ od cd,e=.returned (.slice od 32 cd)∧Qq w' W.heap.size (.slice od 32 cd) dig∧Bd W w') (b:Value→World→Prop) (j:∀ v W,b v W→Row W N 28 [x0,x1,x2,x3,x4,x5,.slice oa k B,x7,x8,x9]∧∃ o n c,v=.slice o n c)
  (m:∀ W od cd,Bd w W→Qq W w.heap.size (.slice od 32 cd) dig→Calls prog 119 #[.slice oa k B,.agg #[Bb ch,Bb h,.slice od 32 cd]] W fun e w'=>∃ v,e=.returned v∧b v w') (Q:Exit→Act→World→Prop)
  (hQ:Hid (∀ (σ:Nat→Value) (W:World),b (σ 8) W→Q .normal ⟨#[v4,Bb ch,v5,v6,.pointer (some ⟨N,0,none⟩),v2,v3,v7,v1,sv,c0,A1,A2,.pointer (some ⟨g,0,none⟩),A3,A4,A5,A6,A7,A8,A9,Aa,Ab,Ac,Ad,Ae,Af,Ag,Ah,Ai,Aj,Ak,Al,Am,An,Ao,Ap,Aq,Ar,As,At,Au,Av,Aw,Ax,Ay,Az,AA,AB,AC,AD,σ 0,σ 1,σ 2,σ 3,σ 4,σ 5,σ 6,σ 7,σ 8,σ 9,AE,AF,AG,AH,AI,AJ,AK,AL,AM,AN,AO],[]⟩ (W.setCell ⟨N,6,none⟩ (σ 8)))) :
  Code.wp prog (.region 10 ((f90.body.bind (Qaz 10)).getD #[]) true) Q ⟨#[v4,Bb ch,v5,v6,.pointer (some ⟨N,0,none⟩),v2,v3,v7,v1,sv,c0,A1,A2,.pointer (some ⟨g,0,none⟩),A3,A4,A5,A6,A7,A8,A9,Aa,Ab,Ac,Ad,Ae,Af,Ag,Ah,Ai,Aj,Ak,Al,Am,An,Ao,Ap,Aq,Ar,As,At,Au,Av,Aw,Ax,Ay,Az,AA,AB,AC,AD,AP,AQ,AR,AS,AT,AU,AV,AW,AX,AY,AE,AF,AG,AH,AI,AJ,AK,AL,AM,AN,AO],[]⟩ w:=by
 conv=>arg 2;arg 2;whnf
 conv=>arg 4;dsimp only
 refine Qe4 8 (by kernel_rfl) (fun σ=>#[v4,Bb ch,v5,v6,.pointer (some ⟨N,0,none⟩),v2,v3,v7,v1,sv,c0,A1,A2,.pointer (some ⟨g,0,none⟩),A3,A4,A5,A6,A7,A8,A9,Aa,Ab,Ac,Ad,Ae,Af,Ag,Ah,Ai,Aj,Ak,Al,Am,An,Ao,Ap,Aq,Ar,As,At,Au,Av,Aw,Ax,Ay,Az,AA,AB,AC,AD,σ 0,σ 1,σ 2,σ 3,σ 4,σ 5,σ 6,σ 7,σ 8,σ 9,AE,AF,AG,AH,AI,AJ,AK,AL,AM,AN,AO]) (fun i=>([AP,AQ,AR,AS,AT,AU,AV,AW,AX,AY,undef]:List Value).getD i undef) rfl (.pointer (some ⟨N,6,none⟩)) (fun i X W=>match i with
  | 0=>X=.pointer (some ⟨N,6,none⟩)
  | 1=>X=.slice oa k B
  | 2=>X=Bb ch
  | 3=>X=.pointer (some ⟨g,2,none⟩)
  | 4=>X=Bb h
  | 5=>X=.agg #[p0,p1,Bb h,p3,p4]
  | 6=>∃ od cd,X=.slice od 32 cd∧Qq W w.heap.size (.slice od 32 cd) dig
  | 7=>∃ od cd,X=.agg #[Bb ch,Bb h,.slice od 32 cd]∧Qq W w.heap.size (.slice od 32 cd) dig
  | _=>True) ?_ b (fun v W=>∃ W0,b v W0∧W=W0.setCell ⟨N,6,none⟩ v) (by kernel_rfl) ?_ ?_ ?_ ?_ ?_
 ·intro i X W W' HB H
  iterate 8 (obtain _ | i:=i;first | exact H | exact (by obtain ⟨od,cd,h1,h2⟩:=H;exact ⟨od,cd,h1,h2.below HB⟩))
  exact H
 ·refine ⟨?_,?_,?_,?_,?_,?_,?_,?_,trivial⟩
  all_goals (intro σ W HJ d;simp at d;have HJ:=hid HJ;obtain ⟨gsk0,gsk1,gsk2,gsk3,gsk4,gsk5,gsk6,gsk7,gsk8,gsk9⟩:=(rg C HJ).k10;obtain ⟨gpk0,gpk1,gpk2,gpk3,gpk4⟩:=(rg A HJ).k5)
  iterate 6 (refine Qb rfl rfl ?_;go_simp;exact QJ.mk0 _ (by first | rfl | simp [Qn, *]) HJ.out rfl)
  ·have HC:=hid (z W HJ.out)
   refine Qb rfl rfl ?_;go_simp;refine HC.out.mono ?_;rintro e w2 ⟨od,cd,rfl,ho,hb⟩;exact QJ.mk _ (by first | rfl | simp [Qn, *]) hb HJ.out ⟨od,cd,rfl,Qcc ho HJ.out.size⟩
  ·obtain ⟨d3,d5,od,cd,d6,ho⟩:=d
   have HO:=hid ho;clear ho;refine Qb rfl rfl ?_;go_simp;exact QJ.mk0 (.agg #[Bb ch,Bb h,.slice od 32 cd]) (by first | rfl | simp [Qn, *]) HJ.out ⟨od,cd,rfl,HO.out⟩
 ·intro σ W HJ hg
  have eL:σ 1=.slice oa k B:=hg 1 (by decide)
  obtain ⟨od,cd,eB,ho⟩:∃ od cd,σ 7=.agg #[Bb ch,Bb h,.slice od 32 cd]∧Qq W w.heap.size (.slice od 32 cd) dig:=hg 7 (by decide)
  have HC:=hid (m W od cd HJ ho);clear hg HJ ho;refine Qb rfl rfl ?_;go_simp;refine HC.out.mono ?_;rintro e w2 ⟨v,rfl,hp⟩;exact ⟨v,by first | rfl | simp [Qn, *],hp⟩
 ·intro σ W
  refine Qb rfl rfl ?_;go_simp;exact ⟨by first | rfl | simp [Qn, *],rfl⟩
 ·intro σ W eu hp
  obtain ⟨hr,o,n,c,ev⟩:=j _ _ hp;have kc:=hr.cell 6;have kz:=hr.frozen 6;simp at kc;have HP:=hid hp;clear hp hr;refine Qb rfl rfl ?_;go_simp;rw [ev] at HP;exact ⟨undef,by first | rfl | simp [Qn, *],W,HP.out,by first | rfl | rw [ev]⟩
 ·rintro σ W ⟨W0,hp,rfl⟩ _
  exact hQ.out σ W0 hp
theorem Quf {A3 A4 A5 A6 A7 A8 A9 Aa Ab Ac Ad Ae Af Ag Ah Ai Aj Ak Al Am An Ao Ap Aq Ar As At Au Av Aw Ax Ay Az AA AB AC AD AE AF AG AH AI AJ AK AL AM AN AO AP AQ AR AS AT AU AV AW AX AY:Value} {x0 x1 x2 x3 x4 x5 x6 x7 x8 x9 p0 p1 p2 p3 p4:Value} (hs:Hid (Row w N 28 [x0,x1,x2,x3,x4,x5,x6,x7,x8,x9])) (hp:Hid (Row w g 51 [p0,p1,p2,p3,p4])) (ha:Hid (Row w n 28 cs)) (j:cs.length=10) (hb:Hid (Row w k 51 xs)) (m:xs.length=5)
  (q:(#[x0,x1,x2,x3,x4,x5,x6,x7,x8,x9]:Array Value).all (·.oneCell')=true) (z:(#[p0,p1,p2,p3,p4]:Array Value).all (·.oneCell')=true) (q1:N≠n∧N≠k∧g≠n∧g≠k∧n≠k) (Q:Exit→Act→World→Prop)
  (hQ:Hid (∀ (σ:Nat→Value) (W:World),Two n k w W→Row W n 28 [x0,x1,x2,x3,x4,x5,x6,x7,x8,x9]→Row W k 51 [p0,p1,p2,p3,p4]→σ 4=Bb 0→Q .normal ⟨#[v,v4,v5,v6,.pointer (some ⟨N,0,none⟩),v2,v3,v7,.pointer (some ⟨n,0,none⟩),.pointer (some ⟨k,0,none⟩),σ 4,v1,sv,.pointer (some ⟨g,0,none⟩),c0,A3,A4,A5,A6,A7,A8,A9,Aa,Ab,Ac,Ad,Ae,Af,Ag,Ah,Ai,Aj,Ak,Al,Am,An,Ao,Ap,Aq,Ar,As,At,Au,Av,Aw,Ax,Ay,Az,AA,AB,AC,AD,AE,AF,AG,AH,AI,AJ,AK,AL,AM,AN,AO,AP,AQ,AR,AS,AT,AU,AV,σ 0,σ 1],[]⟩ W)) :
  Code.wp prog (.region 12 ((f90.body.bind (Qaz 12)).getD #[]) true) Q ⟨#[v,v4,v5,v6,.pointer (some ⟨N,0,none⟩),v2,v3,v7,.pointer (some ⟨n,0,none⟩),.pointer (some ⟨k,0,none⟩),AW,v1,sv,.pointer (some ⟨g,0,none⟩),c0,A3,A4,A5,A6,A7,A8,A9,Aa,Ab,Ac,Ad,Ae,Af,Ag,Ah,Ai,Aj,Ak,Al,Am,An,Ao,Ap,Aq,Ar,As,At,Au,Av,Aw,Ax,Ay,Az,AA,AB,AC,AD,AE,AF,AG,AH,AI,AJ,AK,AL,AM,AN,AO,AP,AQ,AR,AS,AT,AU,AV,AX,AY],[]⟩ w:=by
 conv=>arg 2;arg 2;whnf
 conv=>arg 4;dsimp only
 refine Qe2 (by kernel_rfl) (fun σ=>#[v,v4,v5,v6,.pointer (some ⟨N,0,none⟩),v2,v3,v7,.pointer (some ⟨n,0,none⟩),.pointer (some ⟨k,0,none⟩),σ 4,v1,sv,.pointer (some ⟨g,0,none⟩),c0,A3,A4,A5,A6,A7,A8,A9,Aa,Ab,Ac,Ad,Ae,Af,Ag,Ah,Ai,Aj,Ak,Al,Am,An,Ao,Ap,Aq,Ar,As,At,Au,Av,Aw,Ax,Ay,Az,AA,AB,AC,AD,AE,AF,AG,AH,AI,AJ,AK,AL,AM,AN,AO,AP,AQ,AR,AS,AT,AU,AV,σ 0,σ 1]) (fun i=>([AX,AY,undef,undef,AW]:List Value).getD i undef) rfl (fun i X W=>match i with
  | 0=>X=.agg #[x0,x1,x2,x3,x4,x5,x6,x7,x8,x9]
  | 1=>X=.agg #[p0,p1,p2,p3,p4]
  | 2=>Row W n 28 [x0,x1,x2,x3,x4,x5,x6,x7,x8,x9]
  | 3=>Row W k 51 [p0,p1,p2,p3,p4]
  | 4=>X=Bb 0
  | _=>True) (fun A B=>(Row A n 28 [x0,x1,x2,x3,x4,x5,x6,x7,x8,x9]→Row B n 28 [x0,x1,x2,x3,x4,x5,x6,x7,x8,x9])∧(Row A k 51 [p0,p1,p2,p3,p4]→Row B k 51 [p0,p1,p2,p3,p4])) (fun W=>Two n k w W∧(∃ o:List Value,o.length=10∧Row W n 28 o)∧∃ o:List Value,o.length=5∧Row W k 51 o) ⟨Two.drew _ _ _,⟨cs,j,ha.out⟩,xs,m,hb.out⟩ ?_ (by kernel_rfl) ?_ ?_
 ·intro i X A B hR H
  match i,H with
  | 0,H=>exact H
  | 1,H=>exact H
  | 2,H=>exact hR.1 H
  | 3,H=>exact hR.2 H
  | 4,H=>exact H
  | _+5,_=>exact trivial
 ·refine ⟨?_,?_,?_,?_,?_,trivial⟩
  all_goals (intro σ W HJ b;simp at b;have HJ:=hid HJ)
  ·obtain ⟨k0,k1,k2,k3,k4,k5,k6,k7,k8,k9⟩:=(show Row W N 28 [x0,x1,x2,x3,x4,x5,x6,x7,x8,x9] from (HJ.out.1.same _ q1.1 q1.2.1).trans hs.out).k10
   refine Qb rfl rfl ?_;go_simp;exact ⟨_,(by first | rfl | simp [Qn, *]),⟨id,id⟩,HJ.out,rfl⟩
  ·obtain ⟨m0,m1,m2,m3,m4⟩:=(show Row W g 51 [p0,p1,p2,p3,p4] from (HJ.out.1.same _ q1.2.2.1 q1.2.2.2.1).trans hp.out).k5
   refine Qb rfl rfl ?_;go_simp;exact ⟨_,(by first | rfl | simp [Qn, *]),⟨id,id⟩,HJ.out,rfl⟩
  ·obtain ⟨o,hl,hr⟩:=HJ.out.2.1
   have hd:σ 0=.agg #[x0,x1,x2,x3,x4,x5,x6,x7,x8,x9]:=by first | exact b | exact b.1
   refine Qb rfl rfl ?_;refine wp_store_row _ (.tmp 8) (.tmp 70) rfl n #[x0,x1,x2,x3,x4,x5,x6,x7,x8,x9] rfl hd 28 o.toArray hr (by kernel_rfl) (by simpa using hl) q ?_
   refine ⟨undef,rfl,⟨fun _=>Row.setRow hr _,fun h=>(BW _ _ _ _ q1.2.2.2.2.symm).trans h⟩,⟨HJ.out.1.row _ (.inl rfl),⟨_,by rfl,Row.setRow hr [x0,x1,x2,x3,x4,x5,x6,x7,x8,x9]⟩,?_⟩,Row.setRow hr _⟩
   obtain ⟨o',d,e⟩:=HJ.out.2.2;exact ⟨o',d,(BW _ _ _ _ q1.2.2.2.2.symm).trans e⟩
  ·obtain ⟨o,hl,hr⟩:=HJ.out.2.2
   have hd:σ 1=.agg #[p0,p1,p2,p3,p4]:=by first | exact b | exact b.1 | exact b.2.1
   refine Qb rfl rfl ?_;refine wp_store_row _ (.tmp 9) (.tmp 71) rfl k #[p0,p1,p2,p3,p4] rfl hd 51 o.toArray hr (by kernel_rfl) (by simpa using hl) z ?_
   refine ⟨undef,rfl,⟨fun h=>(BW _ _ _ _ q1.2.2.2.2).trans h,fun _=>Row.setRow hr _⟩,⟨HJ.out.1.row _ (.inr rfl),?_,⟨_,by rfl,Row.setRow hr [p0,p1,p2,p3,p4]⟩⟩,Row.setRow hr _⟩
   obtain ⟨o',d,e⟩:=HJ.out.2.1;exact ⟨o',d,(BW _ _ _ _ q1.2.2.2.2).trans e⟩
  ·refine Qb rfl rfl ?_;go_simp;exact ⟨_,(by first | rfl | simp [Qn, *]),⟨id,id⟩,HJ.out,rfl⟩
 ·intro σ W HJ hg
  exact hQ.out σ W HJ.1 (hg 2 (by decide)) (hg 3 (by decide)) (hg 4 (by decide))
theorem Qwe {A3 A4 A5 A6 A7 A8 A9 Aa Ab Ac Ad Ae Af Ag Ah Ai Aj Ak z4 Al Am An Ao Ap Aq Ar As:Value} {x0 x1 x2 x3 x5 x6 x7 x8 x9:Value} {b f c:Nat} {z:Int} (A:Hid (Row w N 28 [x0,x1,x2,x3,.slice (some ⟨b,f,none⟩) n c,x5,x6,x7,x8,x9])) (hlb:(k:Int)<(n:Int)) (m:b<w.heap.size) (q:Hid (w.cell? ⟨b,f+k*4+1,none⟩=some (Bb h))) (hc:∀ W,Bd w W→Calls prog 106 #[.agg #[x0,x1,x2,x3,.slice (some ⟨b,f,none⟩) n c,x5,x6,x7,x8,x9],Bb h] W fun e w'=>e=.returned (Bb z)∧Bd W w') (Q:Exit→Act→World→Prop)
  (hQ:Hid (∀ (σ:Nat→Value) (w':World),Bd w w'→σ 8=Bb z→Q .normal ⟨#[v,Bb (k:Int),.pointer (some ⟨N,0,none⟩),v4,σ 8,v5,v6,v2,v3,v7,v1,sv,c0,A3,A4,A5,A6,A7,A8,A9,Aa,Ab,Ac,Ad,Ae,Af,Ag,Ah,Ai,Aj,Ak,σ 0,σ 1,σ 2,σ 3,σ 4,σ 5,σ 6,σ 7],[]⟩ w')) :
  Code.wp prog (.region 7 ((f110.body.bind (Qaz 7)).getD #[]) true) Q ⟨#[v,Bb (k:Int),.pointer (some ⟨N,0,none⟩),v4,z4,v5,v6,v2,v3,v7,v1,sv,c0,A3,A4,A5,A6,A7,A8,A9,Aa,Ab,Ac,Ad,Ae,Af,Ag,Ah,Ai,Aj,Ak,Al,Am,An,Ao,Ap,Aq,Ar,As],[]⟩ w:=by
 conv=>arg 2;arg 2;whnf
 conv=>arg 4;dsimp only
 refine ZG (by kernel_rfl) (fun σ=>#[v,Bb (k:Int),.pointer (some ⟨N,0,none⟩),v4,σ 8,v5,v6,v2,v3,v7,v1,sv,c0,A3,A4,A5,A6,A7,A8,A9,Aa,Ab,Ac,Ad,Ae,Af,Ag,Ah,Ai,Aj,Ak,σ 0,σ 1,σ 2,σ 3,σ 4,σ 5,σ 6,σ 7]) (fun i=>([Al,Am,An,Ao,Ap,Aq,Ar,As,z4]:List Value).getD i undef) rfl (fun i X W=>match i with
  | 0=>X=.agg #[x0,x1,x2,x3,.slice (some ⟨b,f,none⟩) n c,x5,x6,x7,x8,x9]
  | 1=>X=.pointer (some ⟨N,4,none⟩)
  | 2=>X=.slice (some ⟨b,f,none⟩) n c
  | 3=>X=Bb (k:Int)
  | 4=>X=.pointer (some ⟨b,f+k*4,none⟩)
  | 5=>X=.pointer (some ⟨b,f+k*4+1,none⟩)
  | 6=>X=Bb h
  | 7=>X=Bb z
  | 8=>X=Bb z
  | _=>True) ?_ (by kernel_rfl) ?_ ?_
 ·intro i X W W' HB H
  iterate 9 (obtain _ | i:=i;first | exact H)
  exact H
 ·refine ⟨?_,?_,?_,?_,?_,?_,?_,?_,?_,trivial⟩
  all_goals (intro σ W HJ j;simp at j;have HJ:=hid HJ;obtain ⟨gsk0,gsk1,gsk2,gsk3,gsk4,gsk5,gsk6,gsk7,gsk8,gsk9⟩:=(rg A HJ).k10;have d:=q.out;replace d:=(HJ.out.cell (by exact m)).trans d)
  iterate 7 (refine Qb rfl rfl ?_;go_simp;exact QJ.mk0 _ (by first | rfl | simp [Qn, *]) HJ.out rfl)
  ·have HC:=hid (hc W HJ.out);refine Qb rfl rfl ?_;go_simp;refine HC.out.mono ?_;rintro e w2 ⟨rfl,hb⟩;exact QJ.mk _ (by first | rfl | simp [Qn, *]) hb HJ.out rfl
  ·refine Qb rfl rfl ?_;go_simp;exact QJ.mk0 _ (by first | rfl | simp [Qn, *]) HJ.out rfl
 ·intro σ w' hb hg
  exact hQ.out σ w' hb (hg 8 (by decide))
theorem QoV (s:St) (v:Value) (N:Nat) (w:World) (i:Int) (hv:StV w N v s) (hN:N≤w.heap.size) (h0:Qd s=0) :
  Calls prog 110 #[v,Bb i] w fun e w'=>e=.returned (Bb (Qax s i))∧Bd w w':=by
 have HE:=hid (show Qax s i=if i<0∨(s.conns.length:Int)≤i then 6 else if (Yb s i).state≠3 then 12 else if (Yb s i).oconn<0 then 8 else ZN s (Yb s i).client from rfl)
 have m:=hid (fun (c:Int) wx (hx:Bd w wx)=>QrV s v N wx c (hv.below (hx.mono hN)) (Bh hN hx.size) h0)
 obtain ⟨o1,c1,o2,c2,o3,c3,o4,c4,o5,c5,o6,c6,o7,c7,rfl,hm⟩:=hv.open;have HM:=hid hm;clear hv hm h0
 go_in
 go_upto_region 1 with fail
 refine JN ?_;intro w0 F hs;have k4:=F.r0.k10.2.2.2.2.1
 by_cases h0:i<0
 ·have e0:decide (i<0)=true:=by simpa using h0
  go_wp2;go_ret;exact ⟨by rw [HE.out,if_pos (.inl h0)];rfl,F.b⟩
 have e0:decide (i<0)=false:=by simpa using h0
 by_cases h1:(s.conns.length:Int)≤i
 ·have e1:decide ((s.conns.length:Int)≤i)=true:=by simpa using h1
  go_wp2;go_ret;exact ⟨by rw [HE.out,if_pos (.inr h1)];rfl,F.b⟩
 have e1:decide ((s.conns.length:Int)≤i)=false:=by simpa using h1
 have d:=hid (HE.out.trans (if_neg (by omega)))
 obtain ⟨k,rfl⟩:∃ k:Nat,i=(k:Int):=⟨i.toNat,by omega⟩
 have C:(k:Int)<(s.conns.length:Int):=by omega
 obtain ⟨x,hx⟩:∃ x,s.conns[k]?=some x:=⟨_,Bk (by omega)⟩
 rw [Yp hx] at d;obtain ⟨b,f,rfl,hb,x0,x1,x2,x3⟩:=(HM.out.below (F.b.mono hN)).conns.conn rfl hx;have q:=hid x1;clear x1 x2 hx HE;have A:b<w0.heap.size:=by have:=F.b.size;omega
 by_cases h2:x.state=3
 ·have e2:(x.state != 3)=false:=by simpa using h2
  by_cases h3:x.oconn<0
  ·have e3:decide (x.oconn<0)=true:=by simpa using h3
   have HL:=hid (d.out.trans ((if_neg (by simp [h2])).trans (if_pos h3)))
   clear h2 h3;go_wp2;go_ret;exact ⟨by rw [HL.out];rfl,F.b⟩
  have e3:decide (x.oconn<0)=false:=by simpa using h3
  have HL:=hid (d.out.trans ((if_neg (by simp [h2])).trans (if_neg h3)))
  clear h2 h3
  go_upto_region 7 with fail
  refine Qwe (hid F.r0) C A q (z:=ZN s x.client) (fun W hW=>m.out x.client W (F.go hW).b) _ (hid ?_)
  intro σ w2 j ea;have F2:=F.go j;rw [ea];clear ea j;go_wp2;go_ret;exact ⟨by rw [HL.out];rfl,F2.b⟩
 ·have e2:(x.state != 3)=true:=by simpa using h2
  have HL:=hid (d.out.trans (if_pos h2));clear h2;go_wp2;go_ret;exact ⟨by rw [HL.out];rfl,F.b⟩
theorem Qg7 (s:St) (v:Value) (N:Nat) (w:World) (i:Int) (hv:StV w N v s) (hN:N≤w.heap.size) (d:s.fits) :
  Calls prog 83 #[v,Bb i] w fun e w'=>e=.returned (Bb (Je s i))∧Bd w w':=by
 have HE:=hid (show Je s i=if Qd s≠0 then Qd s else Qax s i from rfl)
 have A:=hid (fun wx (hx:Bd w wx)=>Qda s v N wx (hv.below (hx.mono hN)) (Bh hN hx.size) d)
 have q:=hid (fun (h0:Qd s=0) (c:Int) wx (hx:Bd w wx)=>QoV s v N wx c (hv.below (hx.mono hN)) (Bh hN hx.size) h0)
 obtain ⟨o1,c1,o2,c2,o3,c3,o4,c4,o5,c5,o6,c6,o7,c7,rfl,hm⟩:=hv.open;have HM:=hid hm;clear hv hm d
 go_in
 go_upto_region 1 with fail
 refine JN ?_;intro w0 F0 hs;obtain ⟨k0,k1,k2,k3,k4,k5,k6,k7,k8,k9⟩:=F0.r0.k10
 go_wp2_with fail
 refine (A.out _ F0.b).mono ?_;rintro e w1 ⟨rfl,j⟩;have F:=F0.go j;clear j k0 k1 k2 k3 k4 k5 k6 k7 k8 k9 F0 hs
 by_cases hz:Qd s=0
 ·have H0:=hid hz
  have HS:=hid (HE.out.trans (if_neg (by simp [hz])))
  rw [hz];clear hz;obtain ⟨k0,k1,k2,k3,k4,k5,k6,k7,k8,k9⟩:=F.r0.k10
  go_wp2_with fail
  refine (q.out H0.out i w1 F.b).mono ?_;rintro e w2 ⟨rfl,m⟩;have F2:=F.go m;clear m k0 k1 k2 k3 k4 k5 k6 k7 k8 k9;go_wp2;go_ret;exact ⟨by rw [HS.out];rfl,F2.b⟩
 ·have e0:(Qd s != 0)=true:=by simpa using hz
  have HS:=hid (HE.out.trans (if_pos hz));clear hz;generalize Qd s=z at *;go_wp2;go_ret;exact ⟨by rw [HS.out];rfl,F.b⟩
theorem QpG (ls:List Int) (x:Int) (g n:Nat) (w:World) (hr:Row w g 3 (ls.map (Value.int .i64))) (hn:n=ls.length) (hl:n≤10) :
  Calls prog 148 #[.slice (some ⟨g,0,none⟩) n n,Bb x] w fun e w'=>w'=w∧∃ k:Int,e=.returned (Bb k)∧(decide (0≤k)=decide (x∈ls)):=by
 have HR:=hid hr;have HN:=hid hn;clear hr hn
 go_in
 go_wp2_with fail
 go_loopw [8] (fun i wr=>wr=w∧∃ k:Nat,k≤n∧i=Bb (k:Int)∧Hid (∀ (j:Nat) y,j<k→ls[j]?=some y→y≠x)) (fun i _=>n-(intOf i).toNat)
 case atStart=>exact ⟨rfl,0,by omega,rfl,hid (fun j y hj=>absurd hj (Nat.not_lt_zero _))⟩
 case round =>
  obtain ⟨m,k,hk,rfl,HI⟩:=hrel;obtain rfl:=m
  by_cases d:k<n
  ·obtain ⟨y,hy⟩:∃ y,ls[k]?=some y:=⟨ls[k]'(by rw [← HN.out];exact d),Bk _⟩
   have hlt':(k:Int)<(n:Int):=by omega
   have c0:wr.cell? ⟨g,k,none⟩=some (Bb y):=by rw [HR.out.cell,Bt,hy];rfl
   have HY:=hid hy;clear hy
   by_cases b:x=y
   ·have e1:(x == y)=true:=by simpa using b
    have HX:=hid b;clear b;go_wp2;go_ret
    exact ⟨rfl,_,rfl,by
     have hm:x∈ls:=by rw [HX.out];exact Bn HY.out
     simp [hm]⟩
   ·have e1:(x == y)=false:=by simpa using b
    have HX:=hid b;clear b;go_wp2;go_roundw
    case rel=>exact ⟨by trivial,k+1,by omega,by go_num,hid (fun j z hj hz=>by
     by_cases e:j=k
     ·subst e
      rw [HY.out] at hz
      cases hz
      exact fun h=>HX.out h.symm
     ·exact HI.out j z (by omega) hz)⟩
    case measure=>simp [intOf];omega
  ·have hge:decide ((k:Int)<(n:Int))=false:=by simp;omega
   go_wp2;go_ret
   exact ⟨rfl,_,rfl,by
    have hm:¬ x∈ls:=fun h=>by
     obtain ⟨j,hj⟩:=Di h;have:=(Bm.1 hj).1;exact HI.out j x (by have:=HN.out;omega) hj rfl
    simp [hm]⟩
theorem Qiv (ls:List Int) (x:Int) (g n:Nat) (w:World) (hr:Row w g 3 (ls.map (Value.int .i64))) (hn:n=ls.length) (hl:n≤10) :
  Calls prog 113 #[.slice (some ⟨g,0,none⟩) n n,Bb x] w fun e w'=>e=.returned (.bool (decide (x∈ls)))∧w'=w:=by
 have HC:=hid (QpG ls x g n w hr hn hl);clear hr hn hl
 go_in
 go_wp2_with fail
 refine HC.out.mono ?_;rintro e w1 ⟨b,k,rfl,hk⟩;obtain rfl:=b.symm;have HK:=hid hk;clear hk;go_wp2;go_ret;exact ⟨by rw [← HK.out];rfl,rfl⟩
theorem Qvz {A3 A4 A5 A6 A7 A8 A9 Aa Ab Ac Ad Ae Af Ag Ah Ai Aj Ak Al Am z6 An Ao Ap Aq Ar As At Au:Value} {x0 x1 x2 x3 x4 x6 x7 x8 x9:Value} {b f c:Nat} {z:Int} (A:Hid (Row w N 28 [x0,x1,x2,x3,x4,.slice (some ⟨b,f,none⟩) n c,x6,x7,x8,x9])) (hlb:(k:Int)<(n:Int)) (m:b<w.heap.size) (q:Hid (w.cell? ⟨b,f+k*7+2,none⟩=some (Bb h))) (hc:∀ W,Bd w W→Calls prog 110 #[.agg #[x0,x1,x2,x3,x4,.slice (some ⟨b,f,none⟩) n c,x6,x7,x8,x9],Bb h] W fun e w'=>e=.returned (Bb z)∧Bd W w') (Q:Exit→Act→World→Prop)
  (hQ:Hid (∀ (σ:Nat→Value) (w':World),Bd w w'→σ 8=Bb z→Q .normal ⟨#[v,Bb (k:Int),v4,.pointer (some ⟨N,0,none⟩),v5,v6,σ 8,v2,v3,v7,v1,sv,c0,A3,A4,A5,A6,A7,A8,A9,Aa,Ab,Ac,Ad,Ae,Af,Ag,Ah,Ai,Aj,Ak,Al,Am,σ 0,σ 1,σ 2,σ 3,σ 4,σ 5,σ 6,σ 7],[]⟩ w')) :
  Code.wp prog (.region 8 ((f86.body.bind (Qaz 8)).getD #[]) true) Q ⟨#[v,Bb (k:Int),v4,.pointer (some ⟨N,0,none⟩),v5,v6,z6,v2,v3,v7,v1,sv,c0,A3,A4,A5,A6,A7,A8,A9,Aa,Ab,Ac,Ad,Ae,Af,Ag,Ah,Ai,Aj,Ak,Al,Am,An,Ao,Ap,Aq,Ar,As,At,Au],[]⟩ w:=by
 conv=>arg 2;arg 2;whnf
 conv=>arg 4;dsimp only
 refine ZG (by kernel_rfl) (fun σ=>#[v,Bb (k:Int),v4,.pointer (some ⟨N,0,none⟩),v5,v6,σ 8,v2,v3,v7,v1,sv,c0,A3,A4,A5,A6,A7,A8,A9,Aa,Ab,Ac,Ad,Ae,Af,Ag,Ah,Ai,Aj,Ak,Al,Am,σ 0,σ 1,σ 2,σ 3,σ 4,σ 5,σ 6,σ 7]) (fun i=>([An,Ao,Ap,Aq,Ar,As,At,Au,z6]:List Value).getD i undef) rfl (fun i X W=>match i with
  | 0=>X=.agg #[x0,x1,x2,x3,x4,.slice (some ⟨b,f,none⟩) n c,x6,x7,x8,x9]
  | 1=>X=.pointer (some ⟨N,5,none⟩)
  | 2=>X=.slice (some ⟨b,f,none⟩) n c
  | 3=>X=Bb (k:Int)
  | 4=>X=.pointer (some ⟨b,f+k*7,none⟩)
  | 5=>X=.pointer (some ⟨b,f+k*7+2,none⟩)
  | 6=>X=Bb h
  | 7=>X=Bb z
  | 8=>X=Bb z
  | _=>True) ?_ (by kernel_rfl) ?_ ?_
 ·intro i X W W' HB H
  iterate 9 (obtain _ | i:=i;first | exact H)
  exact H
 ·refine ⟨?_,?_,?_,?_,?_,?_,?_,?_,?_,trivial⟩
  all_goals (intro σ W HJ j;simp at j;have HJ:=hid HJ;obtain ⟨gsk0,gsk1,gsk2,gsk3,gsk4,gsk5,gsk6,gsk7,gsk8,gsk9⟩:=(rg A HJ).k10;have d:=q.out;replace d:=(HJ.out.cell (by exact m)).trans d)
  iterate 7 (refine Qb rfl rfl ?_;go_simp;exact QJ.mk0 _ (by first | rfl | simp [Qn, *]) HJ.out rfl)
  ·have HC:=hid (hc W HJ.out);refine Qb rfl rfl ?_;go_simp;refine HC.out.mono ?_;rintro e w2 ⟨rfl,hb⟩;exact QJ.mk _ (by first | rfl | simp [Qn, *]) hb HJ.out rfl
  ·refine Qb rfl rfl ?_;go_simp;exact QJ.mk0 _ (by first | rfl | simp [Qn, *]) HJ.out rfl
 ·intro σ w' hb hg
  exact hQ.out σ w' hb (hg 8 (by decide))
theorem Qlq (s:St) (v:Value) (N:Nat) (w:World) (i:Int) (ls:List Int) (gl nl:Nat) (hv:StV w N v s) (hN:N≤w.heap.size) (d:s.fits) (hl:Row w gl 3 (ls.map (Value.int .i64))) (C:nl=ls.length) (m:nl≤10) :
  Calls prog 86 #[v,Bb i,.slice (some ⟨gl,0,none⟩) nl nl] w fun e w'=>e=.returned (Bb (Ja s i ls))∧Bd w w':=by
 have HE:=hid (show Ja s i ls=if Qd s≠0 then Qd s else if i<0∨(s.chans.length:Int)≤i then 6 else if (Qx s i).state∈ls then Qax s (Qx s i).conn else 12 from rfl)
 have G:=hid (fun wx (hx:Bd w wx)=>Qda s v N wx (hv.below (hx.mono hN)) (Bh hN hx.size) d)
 have E:=hid (fun (h0:Qd s=0) (c:Int) wx (hx:Bd w wx)=>QoV s v N wx c (hv.below (hx.mono hN)) (Bh hN hx.size) h0)
 have D:=hid (fun (x:Int) wx (hx:Bd w wx)=>Qiv ls x gl nl wx (hl.below hx hl.lt) C m)
 obtain ⟨o1,c1,o2,c2,o3,c3,o4,c4,o5,c5,o6,c6,o7,c7,rfl,hm⟩:=hv.open;have HM:=hid hm;clear hv hm d hl C m
 go_in
 go_upto_region 1 with fail
 refine JN ?_;intro w0 F0 hs
 go_wp2_with (refine F0.load 0 rfl Qa ?_)
 refine (G.out _ F0.b).mono ?_;rintro e w1 ⟨rfl,q⟩;have F:=F0.go q;clear q F0 hs
 by_cases hz:Qd s=0
 ·have H0:=hid hz
  have HS:=hid (HE.out.trans (if_neg (by simp [hz])))
  rw [hz];clear hz;obtain ⟨k0,k1,k2,k3,k4,k5,k6,k7,k8,k9⟩:=F.r0.k10
  by_cases h0:i<0
  ·have e0:decide (i<0)=true:=by simpa using h0
   go_wp2;go_ret;exact ⟨by rw [HS.out,if_pos (.inl h0)];rfl,F.b⟩
  have e0:decide (i<0)=false:=by simpa using h0
  by_cases h1:(s.chans.length:Int)≤i
  ·have e1:decide ((s.chans.length:Int)≤i)=true:=by simpa using h1
   go_wp2;go_ret;exact ⟨by rw [HS.out,if_pos (.inr h1)];rfl,F.b⟩
  have e1:decide ((s.chans.length:Int)≤i)=false:=by simpa using h1
  have j:=hid (HS.out.trans (if_neg (by omega)))
  obtain ⟨k,rfl⟩:∃ k:Nat,i=(k:Int):=⟨i.toNat,by omega⟩
  have M:(k:Int)<(s.chans.length:Int):=by omega
  obtain ⟨x,hx⟩:∃ x,s.chans[k]?=some x:=⟨_,Bk (by omega)⟩
  rw [Yo hx] at j;obtain ⟨b,f,rfl,hb,x0,-,x2,-⟩:=(HM.out.below (F.b.mono hN)).chans.chan rfl hx;have I:=hid x2;clear x2 hx HE HS;have L:b<w1.heap.size:=by have:=F.b.size;omega
  go_wp2_with fail
  refine (D.out x.state w1 F.b).mono ?_;rintro e w2 ⟨rfl,O⟩;obtain rfl:=O.symm
  by_cases h2:x.state∈ls
  ·have HL:=hid (j.out.trans (if_pos h2))
   rw [show decide (x.state∈ls)=true from BB h2];clear h2
   go_upto_region 8 with fail
   refine Qvz (hid F.r0) M L I (z:=Qax s x.conn) (fun W hW=>E.out H0.out x.conn W (F.go hW).b) _ (hid ?_)
   intro σ w3 A ea;have F2:=F.go A;rw [ea];clear ea A;go_wp2;go_ret;exact ⟨by rw [HL.out];rfl,F2.b⟩
  ·have HL:=hid (j.out.trans (if_neg h2))
   rw [show decide (x.state∈ls)=false from BC h2];clear h2;go_wp2;go_ret;exact ⟨by rw [HL.out];rfl,F.b⟩
 ·have e0:(Qd s != 0)=true:=by simpa using hz
  have HS:=hid (HE.out.trans (if_pos hz));clear hz;generalize Qd s=z at *;go_wp2;go_ret;exact ⟨by rw [HS.out];rfl,F.b⟩
theorem Qq6 (s:St) (i st:Int):Ja s i [st]=Jt s i st:=by
 unfold Ja Jt
 by_cases h:(Qx s i).state=st <;> simp [h]
theorem QkE (s:St) (v:Value) (N:Nat) (w:World) (i st:Int) (gl:Nat) (hv:StV w N v s) (hN:N≤w.heap.size) (b:s.fits) (hl:Row w gl 3 [Bb st]) :
  Calls prog 86 #[v,Bb i,.slice (some ⟨gl,0,none⟩) 1 1] w fun e w'=>e=.returned (Bb (Jt s i st))∧Bd w w':=by
 rw [← Qq6];exact Qlq s v N w i [st] gl 1 hv hN b hl rfl (by omega)
theorem Qj7 (q:Int) (hq:0≤q∧q≤1000000000000):(Jr Qed [q.toNat]).length≤140737488351232:=by
 have h:=Qah 12 q.toNat (by omega)
 simp [Jr,Qed];omega
theorem Qj8 (o:Ch) (ho:(1≤o.state∧o.state≤4)∧(0≤o.conn∧o.conn≤1000000000000)∧(-1≤o.ochan∧o.ochan≤1000000000000)):(QcL o).length≤140737488351232:=by
 have:=(QgA [o.state,if o.ordered=true then 1 else 0,o.conn,o.ochan+1] (by simp) (fun n hn=>by simp at hn;rcases hn with h | h | h | h <;> first | omega | (subst h;split <;> decide))).2
 unfold QcL;omega
set_option linter.constructorNameAsVariable false in
theorem Qg2 (s:St) (v Y:Value) (N:Nat) (w:World) (st back z:Int) (o:Ch) (h:Sh) (hv:StV w N v s) (hh:ShV w N Y h) (hN:N≤w.heap.size) (q:s.fits) (M:h.fits) (C:Qi w) (A:QL w) (hw:Qd s=0) (O:Qax s o.conn=0) (hq:0≤o.ochan∧o.ochan≤1000000000000) (T:1≤st∧st≤4) (E : -1≤back∧back≤1000000000000) (hz:QaS s o st back h z) :
  Calls prog 85 #[v,.agg #[Bb o.state,.bool o.ordered,Bb o.conn,Bb o.ochan,Bb o.send,Bb o.recv,Bb o.ack],Bb st,Bb back,Y] w fun e w'=>e=.returned (Bb (z))∧Bd w w':=by
 obtain ⟨hc,-,m,d⟩:=QeX O;unfold QaS JJ at hz;clear O;obtain ⟨a0,a1,a2,a3,a4,a5,a6⟩:=o;simp only at hc m d hz hq ⊢;obtain ⟨k,rfl⟩:∃ k:Nat,a2=(k:Int):=⟨a2.toNat,by omega⟩
 obtain ⟨x,hx⟩:∃ x,s.conns[k]?=some x:=⟨_,Bk (by omega)⟩
 have aA:=Zm ((QE hw).conns x (Bn hx));rw [Yp hx] at m d hz;have I:=Qal d;obtain ⟨x0,x1,x2,x3⟩:=x;simp only at m hz I aA;obtain ⟨j,rfl⟩:∃ j:Nat,x1=(j:Int):=⟨x1.toNat,by omega⟩
 obtain ⟨y,hy⟩:∃ y,s.clients[j]?=some y:=⟨_,Bk (by omega)⟩
 rw [QaL hy] at hz;have D:(1≤st∧st≤4)∧(0≤x3∧x3≤1000000000000)∧(-1≤back∧back≤1000000000000):=⟨T,by omega,E⟩
 have aB:=hid (fun W (hW:Bd w W)=>Qlg a3 hq W (A.below hW))
 have aD:=hid (QmV ⟨st,a1,x3,back,0,0,0⟩ D);obtain ⟨o1,c1,o2,c2,o3,c3,o4,c4,o5,c5,o6,c6,o7,c7,rfl,hm⟩:=hv.open;obtain ⟨q1,e1,q2,e2,q3,e3,r1,s1,r2,s2,r3,s3,r4,s4,r5,s5,r6,s6,rfl,S⟩:=hh.open;have HM:=hid hm;have HX:=hid hx;have HY:=hid hy;have aC:=hid (fun W (hW:Bd w W) cv kv vv (h3:ClV W N cv y) h4 h5=>Qa9.z QeS y s.time h.height (Jr Qed [a3.toNat]) (QcL ⟨st,a1,x3,back,0,0,0⟩) h.prf cv kv vv _ W.heap.size W (C.past hW) (Bj _) (h3.mono (Bh hN hW.size)) h4 h5 ((S.below (hW.mono hN)).mono (Bh hN hW.size)) (q.2.1.2 y (Bn hy)) (Qj7 a3 hq) (Qj8 ⟨st,a1,x3,back,0,0,0⟩ D) M.1 hz)
 have hlt:(k:Int)<(s.conns.length:Int):=by omega
 have hlj:(j:Int)<(s.clients.length:Int):=by omega
 clear hv hm hh S q M C A hw hz hx hy D d aA I T E m hc
 go_in
 go_upto_region 1 with fail
 refine JO ?_;intro w0 F hs;obtain ⟨b,f,rfl,hb,y0,y1,y2,y3⟩:=(HM.out.below (F.b.mono hN)).conns.conn rfl HX.out;have k4:=F.r0.k10.2.2.2.2.1;have m2:=F.r1.k7.2.2.1
 go_upto_region 2 with fail
 refine F.box ?_;intro w1 F1 aH aE;clear y0 y1 y2 y3 k4 m2 aE hs aH F;have m1:=F1.r1.k7.2.1;have n3:=F1.r3.k4.2.2.2
 go_upto_region 3 with fail
 refine F1.box ?_;intro w2 F aI aF;obtain ⟨b',f',ka,ma,rfl,hb',G,L⟩:=(HM.out.below (F.b.mono hN)).clients.client rfl HY.out;have aJ:=F.b.size;have HF:=hid F;have HC:=hid G;have HV:=hid (fun W (hx:Bd w2 W)=>L.below (hx.mono (Bh hN aJ)))
 have aG:b'<w2.heap.size:=by omega
 clear m1 n3 aF aI F1 F G L;apply QD (by kernel_rfl) (fun W hb=>And.intro (HF.out.go hb).r0.cell (And.intro (HF.out.go hb).r1.cell (And.intro (HF.out.go hb).r2.cell (HF.out.go hb).r3.cell))) (by kernel_rfl)
 ·intro σ;simp [Qj];exact rfl
 iterate 5 (apply RK.val rfl;· intro σ W hb hc ⟨hd,hu⟩;simp at hd hu;go_simp;exact rfl)
 apply RK.val rfl;· intro σ W hb hc ⟨hd,hu⟩;simp at hd;exact Jo rfl hd (fun j v hj=>(hb.cell aG).trans (HC.out j v hj)) Qm
 iterate 6 (apply RK.val rfl;· intro σ W hb hc ⟨hd,hu⟩;simp at hd hu;go_simp;exact rfl)
 apply RK.callG (ByB (Jr Qed [a3.toNat])) (ByB.stay _) rfl
 ·intro σ W hb hc ⟨hd,hu⟩;simp at hd hu;exact ⟨_,_,by go_simp,(aB.out W (HF.out.go hb).b).mono fun e w' ⟨v,h1,h2,h3⟩=>⟨v,h1,h3,.of h2.bytes⟩⟩
 apply RK.val rfl;· intro σ W hb hc ⟨hd,hu⟩;exact Jo rfl rfl (HF.out.go hb).r4.range Yg
 apply RK.callG (ByB (QcL ⟨st,a1,x3,back,0,0,0⟩)) (ByB.stay _) rfl
 ·intro σ W hb hc ⟨hd,hu⟩;simp at hd hu;exact ⟨_,_,by go_simp,(aD.out W).mono fun e w' ⟨v,h1,h2,h3⟩=>⟨v,h1,h3,.of h2.bytes⟩⟩
 iterate 2 (apply RK.val rfl;· intro σ W hb hc ⟨hd,hu⟩;simp at hd hu;go_simp;exact rfl)
 apply RK.callG _ (Yr.eq (Bb z)) rfl
 ·intro σ W hb hc ⟨hd,hu⟩;simp at hd hu
  have HD:=hid (aC.out W (HF.out.go hb).b _ _ _ (HV.out W hb) (ByB.bytes hd.2.2.2.1) (ByB.bytes hd.2.2.2.2.1));exact ⟨_,_,by go_simp,HD.out.mono fun e w' ⟨h1,h2⟩=>⟨_,h1,h2,rfl⟩⟩
 iterate 1 (apply RK.val rfl;· intro σ W hb hc ⟨hd,hu⟩;simp at hd hu;go_simp;exact rfl)
 intro σ W hb _ hF;simp [Jm] at hF;go_simp;clear hF;have F:=HF.out.go hb;clear hb;go_wp2;go_ret;exact ⟨rfl,F.b⟩
def Qdx (w:World) (N:Nat) (ev:Value) (c:Ch) (f:Cl):Prop:=∃ ka ma,ev=.agg #[Bb c.state,.bool c.ordered,Bb c.conn,Bb c.ochan,Bb c.send,Bb c.recv,Bb c.ack,.string f.chain,Bb f.trust,.bool f.frozen,.slice ka f.known.length ma]∧ClV w N (.agg #[.string f.chain,Bb f.trust,.bool f.frozen,.slice ka f.known.length ma]) f
theorem Qdx.below {c:Ch} {f:Cl} (h:Qdx w N v c f) (hb:Below N w w'):Qdx w' N v c f:=by
 obtain ⟨ka,ma,e,h⟩:=h;exact ⟨ka,ma,e,h.below hb⟩
def Qeq (w:World) (N:Nat) (ev:Value) (s:St) (i z:Int):Prop:=(z=0→Qdx w N ev (Qx s i) (Qbh s i))∧(z≠0→ev=.agg #[Bb 0,.bool false,Bb 0,Bb 0,Bb 0,Bb 0,Bb 0,.string ⟨#[]⟩,Bb 0,.bool false,Bc])
theorem Qeq.cells {i z:Int} (h:Qeq w N v s i z):∃ x0 x1 x2 x3 x4 x5 x6 x7 x8 x9 b,v=.agg #[x0,x1,x2,x3,x4,x5,x6,x7,x8,x9,b]∧(#[x0,x1,x2,x3,x4,x5,x6,x7,x8,x9,b]:Array Value).all (·.oneCell')=true:=by
 by_cases hz:z=0
 ·obtain ⟨ka,ma,e,-⟩:=h.1 hz
  exact ⟨_,_,_,_,_,_,_,_,_,_,_,e,by simp⟩
 ·exact ⟨_,_,_,_,_,_,_,_,_,_,_,h.2 hz,by simp⟩
theorem QhJ (s:St) (v:Value) (N:Nat) (w:World) (i:Int) (ls:List Int) (gl nl:Nat) (hv:StV w N v s) (hN:N≤w.heap.size) (q:s.fits) (hl:Row w gl 3 (ls.map (Value.int .i64))) (S:nl=ls.length) (C:nl≤10) :
  Calls prog 117 #[v,Bb i,.slice (some ⟨gl,0,none⟩) nl nl] w fun e w'=>Bd w w'∧∃ ev,e=.returned (.tuple #[ev,Bb (Ja s i ls)])∧Qeq w' N ev s i (Ja s i ls):=by
 have HD:=hid (fun wx (hx:Bd w wx)=>Qlq s v N wx i ls gl nl (hv.below (hx.mono hN)) (Bh hN hx.size) q (hl.below hx hl.lt) S C)
 obtain ⟨o1,c1,o2,c2,o3,c3,o4,c4,o5,c5,o6,c6,o7,c7,rfl,hm⟩:=hv.open;have HM:=hid hm;clear hv hm q hl S C
 go_in
 go_upto_region 1 with fail
 refine QcS ?_;intro w0 F0 hs
 go_wp2_with (refine F0.load 0 rfl Qa ?_)
 refine (HD.out _ F0.b).mono ?_;rintro e w1 ⟨rfl,D⟩;have F:=F0.go D;clear D F0 hs HD
 by_cases hz:Ja s i ls=0
 ·obtain ⟨j,k,m,c,d,f,aG,hj,E,I,hd,M,hf,O,-,-,-⟩:=YZ hz
  have HR:=hid (show ∀ (w:World) (ev:Value),Qdx w N ev c f→Qeq w N ev s i (Ja s i ls) from fun w ev h=>⟨fun _=>by rw [E,O];exact h,fun h=>absurd hz h⟩)
  have HZ:=hid hz;rw [hz];subst aG;have hlj:(j:Int)<(s.chans.length:Int):=by have:=(Bm.1 hj).1;omega
  have hlk:(k:Int)<(s.conns.length:Int):=by have:=(Bm.1 hd).1;omega
  have hlm:(m:Int)<(s.clients.length:Int):=by have:=(Bm.1 hf).1;omega
  have HJ:=hid hj;have aB:=hid hd;have aC:=hid hf;clear hz hj hd hf E O;obtain ⟨s0,s1,s2,s3,s4,s5,s6⟩:=c;simp only at I;subst I;obtain ⟨d0,d1,d2,d3⟩:=d;simp only at M;subst M;obtain ⟨b,g,rfl,hb,x0,x1,x2,x3,x4,x5,x6⟩:=(HM.out.below (F.b.mono hN)).chans.chan rfl HJ.out;have k5:=F.r0.k10.2.2.2.2.2.1
  go_upto_region 5 with fail
  refine F.box ?_;intro w2 F2 aH aD;clear x0 x1 x2 x3 x4 x5 x6 k5 aH aD F hb;obtain ⟨b2,f2,rfl,hbb2,-,y1,-⟩:=(HM.out.below (F2.b.mono hN)).conns.conn rfl aB.out;obtain ⟨b1,f1,ka,ma,rfl,hbb1,G,L⟩:=(HM.out.below (F2.b.mono hN)).clients.client rfl aC.out;have aI:=F2.b.size;have aF:b1<w2.heap.size:=by omega
  have aE:b2<w2.heap.size:=by omega
  have aA:=hid L;have HC:=hid G;have HY:=hid y1;have HF:=hid F2;clear G L y1 F2;apply JQ 13 (by kernel_rfl) (fun W hb=>And.intro (HF.out.go hb).r0.cell (And.intro (HF.out.go hb).r2.cell ((hb.cell (p:=⟨b2,f2+k*4+1,none⟩) aE).trans HY.out))) (by kernel_rfl)
  ·intro σ;simp [Qj];exact rfl
  iterate 11 (apply RK.val rfl;· intro σ W hb hc ⟨hd,hu⟩;simp at hd hu;go_simp;exact rfl)
  apply RK.val rfl;· intro σ W hb hc ⟨hd,hu⟩;simp at hd;exact Jo rfl hd (fun j v hj=>(hb.cell aF).trans (HC.out j v hj)) Qm
  iterate 1 (apply RK.val rfl;· intro σ W hb hc ⟨hd,hu⟩;simp at hd hu;go_simp;exact rfl)
  intro σ w3 z _;simp only [Jm,Bv,Bz,Nat.reduceAdd];intro hF;obtain ⟨-,-,-,-,-,-,-,-,-,-,-,-,A,-⟩:=hF;have F3:=HF.out.go z;have T:=hid z;simp only [BV,BT,A];clear A z
  go_wp2_with (refine F3.store 1 rfl Qk (by simp) ?_;intro w4 F4 O4)
  have Y:=hid ((aA.out.below (T.out.mono (Bh hN aI))).below (O4.down (Bi N w3) (by omega)))
  refine Ql results117 rfl F4.r1 Qk rfl ⟨F4.b,_,by rw [HZ.out];rfl,HR.out _ _ ⟨ka,ma,rfl,Y.out⟩⟩
 ·have e0:(Ja s i ls != 0)=true:=by simpa using hz
  have HR:=hid (show ∀ (w:World),Qeq w N (.agg #[Bb 0,.bool false,Bb 0,Bb 0,Bb 0,Bb 0,Bb 0,.string ⟨#[]⟩,Bb 0,.bool false,Bc]) s i (Ja s i ls) from fun w=>⟨fun h=>absurd h hz,fun _=>rfl⟩)
  clear hz
  go_wp2_with (refine F.store 1 rfl Qk (by simp) ?_;intro w2 F2 O2)
  exact Ql results117 rfl F2.r1 Qk rfl ⟨F2.b,_,rfl,HR.out _⟩
theorem Qel (p:Pk) (v:Value) (N:Nat) (w:World) (hv:PkV w N v p):Calls prog 152 #[v] w fun e w'=>e=.returned (Bb (Qy p))∧Bd w w':=by
 have HE:=hid (show Qy p=if (Qs 0 p.src && (Qs 0 p.dst && (Qs 1 p.seq && Qs 1 p.tmo)))=false then 3 else if 150<p.data.length then 4 else 0 from rfl)
 obtain ⟨od,cd,rfl,-⟩:=hv.open;clear hv;have HF:=hid (fun lo n W=>Jz lo n W)
 go_in
 go_upto_region 1 with fail
 refine JN ?_;intro w0 F hs;obtain ⟨k0,k1,k2,k3,k4⟩:=F.r0.k5;have HB:=hid F.b;clear F hs
 cases h1:Qs 0 p.src with
 | false =>
  have HR:=hid (show Qy p=3 by rw [HE.out,h1];rfl)
  go_wp2_with (go_at_call 14;refine (HF.out _ _ _).mono ?_;rintro e w2 ⟨rfl,d⟩;obtain rfl:=d.symm;first | rw [h1] | skip)
  go_ret;exact ⟨by rw [HR.out];rfl,HB.out⟩
 | true =>
  cases h2:Qs 0 p.dst with
  | false =>
   have HR:=hid (show Qy p=3 by rw [HE.out,h1,h2];rfl)
   go_wp2_with (go_at_call 14;refine (HF.out _ _ _).mono ?_;rintro e w2 ⟨rfl,d⟩;obtain rfl:=d.symm;first | rw [h1] | rw [h2] | skip)
   go_ret;exact ⟨by rw [HR.out];rfl,HB.out⟩
  | true =>
   cases h3:Qs 1 p.seq with
   | false =>
    have HR:=hid (show Qy p=3 by rw [HE.out,h1,h2,h3];rfl)
    go_wp2_with (go_at_call 14;refine (HF.out _ _ _).mono ?_;rintro e w2 ⟨rfl,d⟩;obtain rfl:=d.symm;first | rw [h1] | rw [h2] | rw [h3] | skip)
    go_ret;exact ⟨by rw [HR.out];rfl,HB.out⟩
   | true =>
    cases h4:Qs 1 p.tmo with
    | false =>
     have HR:=hid (show Qy p=3 by rw [HE.out,h1,h2,h3,h4];rfl)
     go_wp2_with (go_at_call 14;refine (HF.out _ _ _).mono ?_;rintro e w2 ⟨rfl,d⟩;obtain rfl:=d.symm;first | rw [h1] | rw [h2] | rw [h3] | rw [h4] | skip)
     go_ret;exact ⟨by rw [HR.out];rfl,HB.out⟩
    | true =>
     have j:=hid (show Qy p=if 150<p.data.length then 4 else 0 by rw [HE.out,h1,h2,h3,h4];rfl)
     by_cases h5:150<p.data.length
     ·have e5:decide ((150:Int)<(p.data.length:Int))=true:=by simp;omega
      have HR:=hid (j.out.trans (if_pos h5))
      go_wp2_with (go_at_call 14;refine (HF.out _ _ _).mono ?_;rintro e w2 ⟨rfl,d⟩;obtain rfl:=d.symm;first | rw [h1] | rw [h2] | rw [h3] | rw [h4] | skip)
      go_ret;exact ⟨by rw [HR.out];rfl,HB.out⟩
     ·have e5:decide ((150:Int)<(p.data.length:Int))=false:=by simp;omega
      have HR:=hid (j.out.trans (if_neg h5))
      go_wp2_with (go_at_call 14;refine (HF.out _ _ _).mono ?_;rintro e w2 ⟨rfl,d⟩;obtain rfl:=d.symm;first | rw [h1] | rw [h2] | rw [h3] | rw [h4] | skip)
      go_ret;exact ⟨by rw [HR.out];rfl,HB.out⟩
theorem Qwa {A2 A3 A4 A5 A6 A7 A8 A9 Aa Ab Ac Ad Ae Af Ag Ah Ai Aj Ak Al Am An Ao Ap Aq Ar As:Value} {e0 e1 e2 e3 e4 e5 e6 e7 e8 e9 p0 p1 p2 p3:Value} {b f m c:Nat} {t:Int} (z:Hid (Row w N 173 [e0,e1,e2,e3,e4,e5,e6,e7,e8,e9,.slice (some ⟨b,f,none⟩) n c])) (A:Hid (Row w g 51 [p0,p1,p2,p3,Bb t])) (hlb:(m:Int)<(n:Int)) (j:b<w.heap.size) (q:Hid (w.cell? ⟨b,f+m*4,none⟩=some (Bb h))) (hwr:IntKind.i64.wrap ((n:Int)-1)=(m:Int)) (Q:Exit→Act→World→Prop)
  (hQ:Hid (∀ (σ:Nat→Value) (w':World),Bd w w'→σ 14=.bool (decide (t≤h))→Q .normal ⟨#[v,v4,v5,v6,.pointer (some ⟨N,0,none⟩),.pointer (some ⟨g,0,none⟩),v2,v3,v7,v1,sv,c0,A2,σ 14,σ 0,σ 1,σ 2,σ 3,σ 4,σ 5,σ 6,σ 7,σ 8,σ 9,σ 10,σ 11,σ 12,σ 13,A3,A4,A5,A6,A7,A8,A9,Aa,Ab,Ac,Ad],[]⟩ w')) :
  Code.wp prog (.region 4 ((f118.body.bind (Qaz 4)).getD #[]) true) Q ⟨#[v,v4,v5,v6,.pointer (some ⟨N,0,none⟩),.pointer (some ⟨g,0,none⟩),v2,v3,v7,v1,sv,c0,A2,Ae,Af,Ag,Ah,Ai,Aj,Ak,Al,Am,An,Ao,Ap,Aq,Ar,As,A3,A4,A5,A6,A7,A8,A9,Aa,Ab,Ac,Ad],[]⟩ w:=by
 conv=>arg 2;arg 2;whnf
 conv=>arg 4;dsimp only
 refine ZG (by kernel_rfl) (fun σ=>#[v,v4,v5,v6,.pointer (some ⟨N,0,none⟩),.pointer (some ⟨g,0,none⟩),v2,v3,v7,v1,sv,c0,A2,σ 14,σ 0,σ 1,σ 2,σ 3,σ 4,σ 5,σ 6,σ 7,σ 8,σ 9,σ 10,σ 11,σ 12,σ 13,A3,A4,A5,A6,A7,A8,A9,Aa,Ab,Ac,Ad]) (fun i=>([Af,Ag,Ah,Ai,Aj,Ak,Al,Am,An,Ao,Ap,Aq,Ar,As,Ae]:List Value).getD i undef) rfl (fun i X W=>match i with
  | 0=>X=.pointer (some ⟨N,7,none⟩)
  | 1=>X=.pointer (some ⟨N,10,none⟩)
  | 2=>X=.slice (some ⟨b,f,none⟩) n c
  | 3=>X=.pointer (some ⟨N,7,none⟩)
  | 4=>X=.pointer (some ⟨N,10,none⟩)
  | 5=>X=.slice (some ⟨b,f,none⟩) n c
  | 6=>X=Bb (n:Int)
  | 7=>X=Bb (m:Int)
  | 8=>X=.pointer (some ⟨b,f+m*4,none⟩)
  | 9=>X=.pointer (some ⟨b,f+m*4,none⟩)
  | 10=>X=Bb h
  | 11=>X=.pointer (some ⟨g,4,none⟩)
  | 12=>X=Bb t
  | 13=>X=.bool (decide (t≤h))
  | 14=>X=.bool (decide (t≤h))
  | _=>True) ?_ (by kernel_rfl) ?_ ?_
 ·intro i X W W' HB H
  iterate 15 (obtain _ | i:=i;first | exact H)
  exact H
 ·refine ⟨?_,?_,?_,?_,?_,?_,?_,?_,?_,?_,?_,?_,?_,?_,?_,trivial⟩
  all_goals (intro σ W HJ e;simp at e;have HJ:=hid HJ;obtain ⟨gek0,gek1,gek2,gek3,gek4,gek5,gek6,gek7,gek8,gek9,gek10⟩:=(rg z HJ).k11;obtain ⟨gpk0,gpk1,gpk2,gpk3,gpk4⟩:=(rg A HJ).k5;have d:=q.out;replace d:=(HJ.out.cell (by exact j)).trans d)
  iterate 15 (refine Qb rfl rfl ?_;go_simp;exact QJ.mk0 _ (by first | rfl | simp [Qn, *]) HJ.out rfl)
 ·intro σ w' hb hg
  exact hQ.out σ w' hb (hg 14 (by decide))
theorem Qsd (s:St) (c:Ch) (f:Cl) (p:Pk) (v ev pv:Value) (N:Nat) (w:World) (hv:StV w N v s) (he:Qdx w N ev c f) (hp:PkV w N pv p) (hN:N≤w.heap.size) (G:QA f=0) :
  Calls prog 118 #[v,ev,pv] w fun e w'=>e=.returned (Bb (QiG s p (QeO f) c.send))∧Bd w w':=by
 have m:=hid (fun wx (hx:Bd w wx)=>Qel p pv N wx (hp.below (hx.mono hN)))
 obtain ⟨o1,c1,o2,c2,o3,c3,o4,c4,o5,c5,o6,c6,o7,c7,rfl,hm⟩:=hv.open;obtain ⟨ka,ma,rfl,T⟩:=he;obtain ⟨od,cd,rfl,hd⟩:=hp.open;obtain ⟨kv,z,hk⟩:=T;have A:kv=.slice ka f.known.length ma:=by simpa using z.symm
 subst A;obtain ⟨_,_,⟨aA,aB⟩,C,_⟩:=(Yt f).1 G;obtain ⟨n,hn⟩:∃ n,f.known.length=n+1:=⟨f.known.length-1,by omega⟩
 obtain ⟨x,hx⟩:∃ x,f.known[n]?=some x:=⟨f.known[n]'(by omega),Bk _⟩
 have M:=hid (show QeO f=x.height by unfold QeO;rw [List.getLast?_eq_getElem?,hn,DD,hx])
 have HE:=hid (show QiG s p (QeO f) c.send=if Qy p≠0 then Qy p else if p.tmo≤x.height then 11 else if 50≤s.sent.length∨1000000000000≤c.send then 5 else 0 by rw [← M.out];rfl)
 obtain ⟨b,o,rfl,d⟩:=hk.spot (by omega)
 obtain ⟨hbN,vr,vn,d0,-⟩:=d n x hx;have L:=hid d0;have I:IntKind.i64.wrap ((f.known.length:Int)-1)=(n:Int):=by rw [hn,Ce];omega
 have Y:(n:Int)<(f.known.length:Int):=by omega
 have O:=hid I;clear hv hp hm hd z hk d C G d0 hx hn aA aB I
 go_in
 go_upto_region 1 with fail
 refine JO ?_;intro w0 F0 hs
 go_wp2_with (refine F0.load 2 rfl Qh ?_)
 refine (m.out _ F0.b).mono ?_;rintro e w1 ⟨rfl,D⟩;have F:=F0.go D;clear D F0 hs m
 by_cases hz:Qy p=0
 ·have HS:=hid (HE.out.trans (if_neg (by simp [hz])))
  rw [hz];clear hz HE
  go_upto_region 4 with fail
  refine Qwa (hid F.r1) (hid F.r2) Y (by have:=F.b.size;omega) (hid ((F.b.cell (by show b<_;omega)).trans L.out)) O.out _ (hid ?_)
  intro σ w2 E q;have F2:=F.go E;rw [q];clear q E F;have k6:=F2.r0.k10.2.2.2.2.2.2.1;have k4:=F2.r1.k11.2.2.2.2.1
  by_cases h1:p.tmo≤x.height
  ·have HL:=hid (HS.out.trans (if_pos h1))
   rw [show decide (p.tmo≤x.height)=true from BB h1];clear h1;go_wp2;go_ret;exact ⟨by rw [HL.out];rfl,F2.b⟩
  have j:=hid (HS.out.trans (if_neg h1));rw [show decide (p.tmo≤x.height)=false from BC h1];clear h1
  by_cases h2:50≤s.sent.length
  ·have HL:=hid (j.out.trans (if_pos (.inl h2)))
   have e2:decide ((50:Int)≤(s.sent.length:Int))=true:=by simp;omega
   have S:decide (50≤s.sent.length)=true:=by simpa using h2
   clear h2;go_wp2;go_ret;exact ⟨by rw [HL.out];rfl,F2.b⟩
  have e2:decide ((50:Int)≤(s.sent.length:Int))=false:=by simp;omega
  have S:decide (50≤s.sent.length)=false:=by simpa using h2
  by_cases h3:1000000000000≤c.send
  ·have HL:=hid (j.out.trans (if_pos (.inr h3)))
   have e3:decide ((1000000000000:Int)≤c.send)=true:=by simpa using h3
   clear h2 h3;go_wp2;go_ret;exact ⟨by rw [HL.out];rfl,F2.b⟩
  ·have HL:=hid (j.out.trans (if_neg (by omega)))
   have e3:decide ((1000000000000:Int)≤c.send)=false:=by simpa using h3
   clear h2 h3;go_wp2;go_ret;exact ⟨by rw [HL.out];rfl,F2.b⟩
 ·have e0:(Qy p != 0)=true:=by simpa using hz
  have HS:=hid (HE.out.trans (if_pos hz));clear hz;go_wp2;go_ret;exact ⟨by rw [HS.out];rfl,F.b⟩
structure QaO (s:St) (i:Int) (t:St):Prop where
 right:Qd t=0
 fit:t.fits
 rest:({ t with chans:=s.chans }:St)=s
 len:s.chans.length≤t.chans.length
 each:∀ (k:Nat) (c:Ch),s.chans[k]?=some c→∃ d,t.chans[k]?=some d∧d.conn=c.conn∧d.ordered=c.ordered∧(c.state=4→d=c)∧c.state≤d.state∧((k:Int)≠i→d=c)
theorem QdX {l:List Ch} (h:Qd s=0) (hl:l.length≤8) (hc:∀ c∈l,QZ c=0):Qd { s with chans:=l }=0:=by
 obtain ⟨h1,h2,h3,h4⟩:=Q0 h;have h5:=Dm (show decide _=false from h3);unfold Qd;rw [if_neg (by simp [h1]),if_neg (by simp [h2.1,h2.2]),if_neg (by simp [QaY];omega)]
 have h':=(JS _).1 h4;simp only [Bo,BL,BN,Cu,CO] at h';refine (JS _).2 ?_;simp only [Bo,BL,BN,Cu,CO];exact ⟨h'.1,h'.2.1,(Yv _ _).2 hc,h'.2.2.2⟩
theorem QgY {l:List Ch} (hf:s.fits) (hl:l.length<2305843009213693952):({ s with chans:=l }:St).fits:=⟨hf.1,hf.2.1,hf.2.2.1,hl,hf.2.2.2.2⟩
theorem QdK {i:Int} {c:Ch} (hf:s.fits) (hw:Qd s=0) (hl:s.chans.length<8) (hc:QZ c=0):QaO s i (QgJ s 0 c):=by
 have e:QgJ s 0 c={ s with chans:=s.chans ++ [c] }:=if_pos rfl
 rw [e];refine ⟨QdX hw (by simp;omega) ?_,QgY hf (by simp;omega),rfl,by simp,?_⟩
 ·intro x hx
  rcases By.1 hx with hx | hx
  ·exact (QE hw).chans x hx
  ·simp at hx
   rw [hx];exact hc
 ·intro k x hx
  refine ⟨x,?_,rfl,rfl,fun _=>rfl,Int.le_refl _,fun _=>rfl⟩
  simp only;rw [Cw (Bm.1 hx).1];exact hx
theorem Qbx {i:Int} {x:Ch} {st:Int} (hf:s.fits) (hw:Qd s=0) (hi:0≤i) (hx:s.chans[i.toNat]?=some x) (h4:x.state≠4) (h5:x.state≤st) (hc:QZ (x.turned st ch)=0):QaO s i (Qf9 s 0 i (x.turned st ch)):=by
 have e:Qf9 s 0 i (x.turned st ch)={ s with chans:=s.chans.set i.toNat (x.turned st ch) }:=if_pos rfl
 have h8:s.chans.length≤8:=by
  have:=(Q0 hw).2.2.1;unfold QaY at this;have:=Dm this;omega
 rw [e];refine ⟨QdX hw (by simpa using h8) ?_,QgY hf (by simp;omega),rfl,by simp,?_⟩
 ·intro y hy
  rcases Dk hy with hy | hy
  ·exact (QE hw).chans y hy
  ·rw [hy]
   exact hc
 ·intro k y hy
  by_cases b:i.toNat=k
  ·subst b
   rw [hx] at hy
   cases hy
   refine ⟨x.turned st ch,?_,rfl,rfl,fun h=>absurd h h4,h5,fun h=>absurd (show ((i.toNat:Nat):Int)=i by omega) h⟩
   simp only;rw [Dz (Bm.1 hx).1]
  ·refine ⟨y,?_,rfl,rfl,fun _=>rfl,Int.le_refl _,fun _=>rfl⟩
   simp only;rw [BZ b];exact hy
theorem YA {c:Ch} (h1:1≤c.state∧c.state≤4) (h2:0≤c.conn∧c.conn≤1000000000000) (h3 : -1≤c.ochan∧c.ochan≤1000000000000) (h4:(1≤c.send∧c.send≤1000000000000)∧(1≤c.recv∧c.recv≤1000000000000)∧(1≤c.ack∧c.ack≤1000000000000)):QZ c=0:=by
 unfold QZ;rw [if_neg (by omega),if_neg]
 simp [Qs];omega
theorem QhD (h:Y2 s=0):s.chans.length<8:=by
 unfold Y2 at h
 split at h
 ·cases h
 ·omega
theorem Qj5 {i st:Int} (h:Jt s i st=0):Qd s=0∧0≤i∧∃ x,s.chans[i.toNat]?=some x∧Qx s i=x∧x.state=st∧QZ x=0:=by
 obtain ⟨h1,h2,h3,-⟩:=Q2 h;obtain ⟨k,rfl⟩:∃ k:Nat,i=(k:Int):=⟨i.toNat,by omega⟩
 obtain ⟨x,hx⟩:∃ x,s.chans[k]?=some x:=⟨_,Bk (by omega)⟩
 rw [Yo hx] at h3;exact ⟨h1,h2.1,x,hx,Yo hx,h3,(QE h1).chans x (Bn hx)⟩
theorem Qji (h:Qd s=0):s.conns.length≤100:=(QG h).2.1
theorem Qiz {i j:Int} {o:Bool} (hf:s.fits) (h:Qaq s i=0):QaO s j (Qfq s i o):=by
 unfold Qfq;rw [h];unfold Qaq at h
 split at h
 ·rename_i h1;exact absurd h h1
 rename_i h1;obtain ⟨h2,h3⟩:=ZT (by simpa using h1)
 have h4:=QeX h3;have:=Qji h2;exact QdK hf h2 (QhD h) (YA (by simp) (by simp;omega) (by simp) (by simp))
theorem Qkr {i j z:Int} {o:Bool} (hf:s.fits) (h:Qag s i ch z=0):QaO s j (Qlp s i o ch z):=by
 unfold Qlp;rw [h];unfold Qag at h
 split at h
 ·rename_i h1;exact absurd h h1
 rename_i h1
 split at h
 ·cases h
 rename_i hq
 split at h
 ·rename_i h2;exact absurd h h2
 obtain ⟨h2,h3⟩:=ZT (by simpa using h1)
 have h4:=QeX h3;have:=Qji h2;have hq':=(Q6 _ _).1 (show Qs 0 ch=true by simpa using hq)
 exact QdK hf h2 (QhD h) (YA (by simp) (by simp;omega) (by simp;omega) (by simp))
theorem Qkp {i z:Int} (hf:s.fits) (h:QdF s i ch z=0):QaO s i (Qlc s i ch z):=by
 unfold Qlc;rw [h];unfold QdF at h
 split at h
 ·rename_i h1;exact absurd h h1
 rename_i h1
 split at h
 ·cases h
 rename_i hq;obtain ⟨hw,hi,x,hx,e,hs,hc⟩:=Qj5 (show Jt s i 1=0 by simpa using h1)
 have hq':=(Q6 _ _).1 (show Qs 0 ch=true by simpa using hq)
 have ho:=Jw hc;rw [e];exact Qbx hf hw hi hx (by omega) (by omega) (YA (by simp [Ch.turned]) (by simp [Ch.turned];omega) (by simp [Ch.turned];omega) (by simp [Ch.turned];omega))
theorem QdL {i st z:Int} (hf:s.fits) (h1:st≠4) (h2:st≤te) (h3:1≤te∧te≤4) (h:Zi s i st z=0):QaO s i (QcH s i st z te):=by
 unfold QcH;rw [h];unfold Zi at h
 split at h
 ·rename_i h1;exact absurd h h1
 rename_i h4
 split at h
 ·cases h
 obtain ⟨hw,hi,x,hx,e,hs,hc⟩:=Qj5 (show Jt s i st=0 by simpa using h4)
 have ho:=Jw hc;rw [e];exact Qbx hf hw hi hx (by omega) (by omega) (YA (by simp [Ch.turned];omega) (by simp [Ch.turned];omega) (by simp [Ch.turned];omega) (by simp [Ch.turned];omega))
theorem QiA {i:Int} (hf:s.fits) (h:Jt s i 3=0):QaO s i (Qfs s i):=by
 unfold Qfs;rw [h];obtain ⟨hw,hi,x,hx,e,hs,hc⟩:=Qj5 h;have ho:=Jw hc;rw [e];exact Qbx hf hw hi hx (by omega) (by omega) (YA (by simp [Ch.turned]) (by simp [Ch.turned];omega) (by simp [Ch.turned];omega) (by simp [Ch.turned];omega))
abbrev FrB.list {w w1:World} {l:List Bx} (_:Fr w l w1):List Bx:=l
theorem FrB.grown {w2:World} {l:List Bx} {o:Option Nat} (F:Fr w l w1) (hg:w1.grownBy w2 o) (ho:∀ b,o=some b→w.heap.size≤b∧∀ g∈l.map (·.1),g≠b):Fr w l w2 :=
 ⟨F.b.trans ⟨hg.os,hg.tape,hg.output,hg.size,fun k hk=>hg.block k (Br hk F.b.size) fun e=>by have:=(ho k e.symm).1;omega⟩,fun r hr=>(hg.block r.1 (F.rows r hr).lt fun e=>(ho r.1 e.symm).2 r.1 (BG.2 ⟨r,hr,rfl⟩) rfl).trans (F.rows r hr),F.own,F.apart,F.z⟩
theorem Qch {s u:Nat} {b:List Value} (hf:fn.results=#[.cell s t,.cell N t',.tmp u]) (hs:a.tmps.getD s undef=.pointer (some ⟨g,0,none⟩)) (e:a.tmps.getD N undef=.pointer (some ⟨n,0,none⟩)) (hr:Row w g t cs) (d:Row w n t' b) (ht:Qv t cs.length) (j:Qv t' b.length) (hd:a.defers=[]) (hR:R (.returned (.tuple #[.agg cs.toArray,.agg b.toArray,a.tmps.getD u undef])) w):bodyPost prog fn R .ret a w:=by
 have hs':a.tmps[s]?.getD undef=.pointer (some ⟨g,0,none⟩):=by simpa using hs
 have hs'':a.tmps[N]?.getD undef=.pointer (some ⟨n,0,none⟩):=by simpa using e
 exact BK (by simp [results,hf,hs',hs'',asAddr,Ys hr ht,Ys d j]) hd hR
theorem Qeq.below {i z:Int} (h:Qeq w N v s i z) (hb:Below N w w'):Qeq w' N v s i z:=⟨fun hz=>(h.1 hz).below hb,h.2⟩
theorem Qu.only {base:Nat} (h:Qu Z base w s X v1 v2 v3 v4 v5 v6 v7) (O:JG g w w') (hg:¬ Z g):Qu Z base w' s X v1 v2 v3 v4 v5 v6 v7 :=
 h.on O.below fun b _ hZ=>O.same b fun e=>hg (e ▸ hZ)
theorem Qu.own {base:Nat} (h:Qu Z base w s X v1 v2 v3 v4 v5 v6 v7):∀ i b,stO v2 v3 v4 v5 v6 v7 i=some b→base≤b∧b<w.heap.size:=by
 obtain ⟨r4,r5,r6,h⟩:=h;exact Qfa base s X v1 v2 v3 v4 v5 v6 v7 r4 r5 r6 h.now
theorem Qu.holds {base base':Nat} {t:St} (h:Qu Z base w t X v1 v2 v3 v4 v5 v6 v7) (hZ:∀ b,Z b→b<N∨base'≤b):Qp N base' w (.agg #[.string t.name,Bb t.height,Bb t.time,v1,v2,v3,v4,v5,v6,v7]) t :=
 ⟨fun _ hb=>hb.2,fun _ hb hk=>⟨v1,v2,v3,v4,v5,v6,v7,rfl,(h.on hb (fun b d hr=>hk b ⟨hZ b hr,d⟩)).mem⟩⟩
theorem Qb2 (p:Pk):(Jd p).length=32:=QQ _
theorem Qe7 {i:Int} {data:Bg} {tmo:Int} (h:YO s i data tmo≠0):QhX s i data tmo=St.none∧QhW s i data tmo=Pk.none:=⟨if_neg h,if_neg h⟩
theorem Qqu {base:Nat} (h:Qu (fun b=>b<N∨base≤b) base w s noX v1 v2 v3 v4 v5 v6 v7) (hb:base≤w.heap.size) (hs:QaP s.sent) (hl:s.sent.length≤1000) (ch seq:Int) (dig:Bg) (od:Option Addr) (nd cd:Nat) (hW:Bd w W) (ho:Qq W w.heap.size (.slice od nd cd) dig) :
  Calls prog 119 #[v4,.agg #[Bb ch,Bb seq,.slice od nd cd]] W fun e w'=>∃ v',e=.returned v'∧W.grownBy w' v4.ownBlock∧Qu (fun b=>b<N∨base≤b) base w' { s with sent:=QW s.sent ⟨ch,seq,dig⟩ } (fun w2=>Bytes w2 w2.heap.size (.slice od nd cd) dig) v1 v2 v3 v' v5 v6 v7:=by
 have j:=h.own;have hX:=(h.below hW).add (X:=fun w2=>Bytes w2 w2.heap.size (.slice od nd cd) dig) (fun b=>w.heap.size≤b∧b<W.heap.size) ho.held (fun b hF=>.inr (by omega)) (fun b hF i e=>by have:=(j i b e).2;omega)
 obtain ⟨rs,q,hE,m⟩:=hX.putSent;refine (Qid s.sent ⟨ch,seq,dig⟩ od nd cd v4 base W rs q hE hs hl (Bh hb hW.size)).mono ?_;rintro e w' ⟨hg,v',C,rfl,d,A,z⟩;exact ⟨v',rfl,hg,m w' v' C _ hg d A (fun b e=>.inr (Qf.own d b e).1) z⟩
theorem Qu6 (s:St) (v dv:Value) (data:Bg) (N K:Nat) (w:World) (i tmo:Int) (a5:StV w N v s) (hd:Bytes w K dv data) (ai:N≤K) (hK:K≤w.heap.size) (aF:s.fits) (bR:data.length≤140737488351232) (aV:Qi w) :
  Calls prog 90 #[v,Bb i,dv,Bb tmo] w fun e w'=>Bd w w'∧∃ v' pv,e=.returned (.tuple #[v',pv,Bb (YO s i data tmo)])∧Qp N w.heap.size w' v' (QhX s i data tmo)∧JU N w.heap.size w' pv (QhW s i data tmo):=by
 have hN:=Bh ai hK;have hv:=a5.mono ai;have HE:=hid (show YO s i data tmo=if Ja s i [3]≠0 then Ja s i [3] else QiG s (Jv s i data tmo) (QeO (Qbh s i)) (Qx s i).send from rfl)
 have aa:=hid (fun W gl (hx:Bd w W) (hr:Row W gl 3 [Bb 3])=>QhJ s v K W i [3] gl 1 (hv.below (hx.mono hK)) (Bh hK hx.size) aF hr rfl (by decide))
 have af:=hid (fun W ev pv (c:Ch) (f:Cl) (p:Pk) (hx:Bd w W) (he:Qdx W K ev c f) (hp:PkV W K pv p) (bQ:QA f=0)=>Qsd s c f p v ev pv K W (hv.below (hx.mono hK)) he hp (Bh hK hx.size) bQ)
 have a8:=hid (fun W (hx:Bd w W)=>Qg1 data dv K W (hd.below (hx.mono hK)) bR)
 have a9:=hid (fun W (hx:Bd w W) (bT:few s)=>Qrh s v N W (a5.below (hx.mono hN)) (Bh hN hx.size) aF bT)
 have bI:=hid (fun W (hx:Bd w W)=>aV.past hx)
 have az:=hid (fun W (hx:Bd w W)=>hd.below (hx.mono hK))
 obtain ⟨o1,c1,o2,c2,o3,c3,o4,c4,o5,c5,o6,c6,o7,c7,rfl,hm⟩:=hv.open;obtain ⟨odd,cdd,rfl,-⟩:=hd.shape;clear hv a5 hd aF aV hm
 go_in
 go_upto_region 1 with fail
 refine JO ?_;intro w0 F0 b1
 go_wp2_with (refine F0.load 0 rfl Qa ?_)
 refine QbW ?_;intro w2 ar aL;refine (aa.out w2 _ (F0.go aL).b ar).mono ?_;rintro e w3 ⟨aY,ev,rfl,aZ⟩;have F3:=(F0.go aL).go aY;obtain ⟨y0,y1,y2,y3,y4,y5,y6,y7,y8,y9,y10,aE,aU⟩:=aZ.cells;subst aE;have ab:=hid aZ;have ae:=hid aU;have bF:=hid (show w.heap.size+3≤w3.heap.size by have:=aL.size;have:=aY.size;omega)
 clear aZ aU ar aL aY F0 b1 aa
 go_upto_region 2 with (refine F3.storeNew rfl Qk ae.out ?_;intro w4 F4 aj)
 have aR:=hid (ab.out.below (aj.mono (Bh hK F3.b.size)));have bG:=hid (show w3.heap.size<w4.heap.size from F4.r3.lt);clear ab ae aj F3
 by_cases hz:Ja s i [3]=0
 ·have T:=hid (HE.out.trans (if_neg (by simp [hz])))
  obtain ⟨j,k,m,c,d,f,aO,hj,aD,bP,hd,bS,hf,aN,av,aw,-⟩:=YZ hz;obtain ⟨ka,ma,aE,a3⟩:=aR.out.1 hz;rw [aD,aN] at aE;rw [aN] at a3;have aX:=hid (show Jv s i data tmo=⟨i,c.ochan,c.send,data,tmo⟩ by unfold Jv;rw [aD])
  rw [aD,aN,aX.out] at T;have ah:=hid (Yn hz).1;simp only [BI,BE,BD,BF] at aE;obtain ⟨rfl,rfl,rfl,rfl,rfl,rfl,rfl,rfl,rfl,rfl,rfl⟩:=aE;rw [hz];have ac:=hid a3;have HJ:=hid hj;have bD:=hid aO;have bB:=hid aD;have bJ:=hid (Jw av);have bK:=hid aw;clear hz aO hj aD bP hd bS hf aN av aw a3 aR HE;have k3:=F4.r3.k11.2.2.2.1;have k4:=F4.r3.k11.2.2.2.2.1
  go_upto_region 5 with fail
  refine F4.box ?_;intro w5 F5 b2 ak;have aS:=hid (show Qdx w5 K _ c f from ⟨ka,ma,rfl,ac.out.below (ak.mono (Bh hK F4.b.size))⟩);clear k3 k4 b2 ak F4 ac
  go_wp2_with (first | refine F5.load 0 rfl Qa ?_ | refine F5.load 3 rfl Qk ?_ | refine F5.load 4 rfl Qh ?_)
  refine (af.out w5 _ _ c f ⟨i,c.ochan,c.send,data,tmo⟩ F5.b aS.out ⟨_,rfl,az.out w5 F5.b⟩ bK.out).mono ?_;rintro e w6 ⟨rfl,al⟩;have F6:=F5.go al;clear al F5 aS af
  by_cases A:QiG s ⟨i,c.ochan,c.send,data,tmo⟩ (QeO f) c.send=0
  ·have D:=hid (T.out.trans A)
   have ax:Qy ⟨i,c.ochan,c.send,data,tmo⟩=0:=by
    unfold QiG at A
    split at A
    ·rename_i h1;exact absurd A h1
    ·rename_i h1;simpa using h1
   rw [A];have bL:=hid ax;clear A ax T;have hz0:=F6.r4.lt
   go_wp2_with fail
   refine (a8.out w6 F6.b).mono ?_;rintro e w7 ⟨am,dv',rfl,z⟩;obtain ⟨od,cd,rfl,-⟩:=z.shape;have F7:=F6.go am;have a7:=hid z.held;clear z am a8;have kp:=F7.r4.k5.2.2.2.1;have zp:=F7.r4.frozen 3
   go_upto_region 9 with fail
   refine F7.cell 4 rfl ?_;intro w8 F8 O8;have aP:=hid (show QK (fun b=>w6.heap.size≤b∧b<w7.heap.size) w8 (fun w2=>Bytes w2 w2.heap.size (.slice od data.length cd) data) from a7.out.on O8.below fun b hF=>O8.same b (by have:=hF.1;omega))
   have hsz8:=O8.size;clear kp zp O8 F7 a7
   go_wp2_with (refine F8.load 0 rfl Qa ?_)
   refine (a9.out w8 F8.b (QG ah.out)).mono ?_;rintro e w9 ⟨aM,p1,d1,p2,d2,p3,d3,p4,d4,p5,d5,p6,d6,p7,d7,rfl,z⟩;have F9:=F8.go aM;have hg2:=F8.r2.lt;have hsz9:=aM.size;have ad:=hid z;have aQ:=hid (aP.out.below aM);clear z aM a9 aP
   go_upto_region 10 with (refine F9.store 0 rfl Qa (by simp) ?_;intro b5 S aC)
   have aA:=hid (ad.out.only aC (by omega))
   have I:=hid (show QK (fun b=>w6.heap.size≤b∧b<w7.heap.size) b5 _ from aQ.out.on aC.below fun b hF=>aC.same b (by have:=hF.1;have:=F6.r0.lt;omega))
   have hsz10:=aC.size;have bC:=hid F6.lts;clear aC F9 ad aQ F6;have aG:=QE ah.out;have bH:=hid aG.sent.2;have hmany:=aG.many;clear aG;have aT:∀ g∈[w.heap.size,w.heap.size+1,w.heap.size+1+1,w3.heap.size,w4.heap.size],g<w8.heap.size:=F8.lts
   refine Que (hid S.r0) (hid S.r4) (dig:=Jd ⟨i,c.ochan,c.send,data,tmo⟩)
    (fun W hW=>?dig)
    (fun v W=>Fr w S.list W∧Qu (fun b=>b<N∨w8.heap.size≤b) w8.heap.size W { s with sent:=QW s.sent ⟨i,c.send,Jd ⟨i,c.ochan,c.send,data,tmo⟩⟩ } noX (.slice p1 s.clients.length d1) (.slice p2 s.conns.length d2) (.slice p3 s.chans.length d3) v (.slice p5 s.got.length d5) (.slice p6 s.acks.length d6) (.slice p7 s.purses.length d7)∧QK (fun b=>w6.heap.size≤b∧b<w7.heap.size) W (fun w2=>Bytes w2 w2.heap.size (.slice od data.length cd) data)∧∃ o n c,v=.slice o n c)
    ?post (fun W b4 bO hW ho=>?wth) _ (hid ?_)
   case post=>exact fun v W h=>⟨h.1.r0,h.2.2.2⟩
   case dig =>
    refine (Qsh ⟨i,c.ochan,c.send,data,tmo⟩ _ W.heap.size W (bI.out W (S.go hW).b) ⟨_,rfl,(I.out.below hW).now⟩ (Bj _) bL.out).mono ?_;rintro e w' ⟨x,rfl,ho,hb⟩;obtain ⟨ox,cx,rfl,-⟩:=ho.shape;rw [Qb2] at ho ⊢;exact ⟨ox,cx,rfl,ho,hb⟩
   case wth =>
    refine (Qqu aA.out (by omega) bH.out (by omega) i c.send _ b4 32 bO hW ho).mono ?_
    rintro e w' ⟨v',rfl,hg,z⟩;have a4:=aA.out.own 4;refine ⟨v',rfl,(S.go hW).grown hg fun b e=>⟨?_,fun g bU=>?_⟩,(z.add (X:=noX) (fun _=>False) ⟨fun _ h=>h.elim,fun _ _ _=>trivial⟩ (fun _ h=>h.elim) (fun _ h=>h.elim)),(I.out.below hW).grown hg fun b e hF=>?_,?_⟩
    ·have:=(a4 b e).1;omega
    ·have:=aT g bU
     have:=(a4 b e).1;omega
    ·have:=(a4 b e).1;omega
    ·obtain ⟨o,cp,h,-⟩:=z.mem.sent.shape
     exact ⟨_,_,_,h⟩
   intro σ W ⟨FW,z,an,o,n,cc,au⟩
   dsimp only [FrB.list] at FW
   have aJ:=FW.set1 0 6 (σ 8) rfl;have aK:=(JG.refl w.heap.size W).cell 6 (σ 8);have C:=hid (z.only aK (by omega))
   have L:=hid (show QK (fun b=>w6.heap.size≤b∧b<w7.heap.size) _ _ from an.on aK.below fun b hF=>aK.same b (by have:=hF.1;have:=bC.out w.heap.size (.head _);omega))
   rw [au] at aJ C L ⊢;clear aK z an FW au S aA I;generalize W.setCell ⟨w.heap.size,6,none⟩ (.slice o n cc)=O at *;obtain ⟨g,bY,bV,hgl,ao,ap⟩:=Qf.at C.out.chans (r:=Qr c) (i:=j) (by rw [Bt,HJ.out];rfl)
   subst bY;have f4:=ao 4 _ rfl;have z4:=ap (j*7+4);have k5:=aJ.r0.k10.2.2.2.2.2.1;have aO:=bD.out;subst aO;have bX:(j:Int)<(s.chans.length:Int):=by have:=(Bm.1 HJ.out).1;omega
   have b3:IntKind.i64.wrap (c.send+1)=c.send+1:=by have:=bJ.out;rw [Ce];omega
   have aH:=Qf.putCell C.out.chans (i:=j) (j:=4) (x:=Bb (c.send+1)) (r:=Qr c) (by rw [Bt,HJ.out];rfl) (by decide) rfl
   have hput':Jy 86 Qr 7 (O.setCell ⟨g,j*7+4,none⟩ (Bb (c.send+1))) w8.heap.size (.slice (some ⟨g,0,none⟩) s.chans.length d3) (s.chans.set j c.sent1):=by
    have e:(s.chans.map Qr).set j ((Qr c).set 4 (Bb (c.send+1)))=(s.chans.set j c.sent1).map Qr:=by rw [De];rfl
    rw [e] at aH;exact aH
   have bW:O.grownBy (O.setCell ⟨g,j*7+4,none⟩ (Bb (c.send+1))) (some g):=Q3 O g (j*7+4) [Bb (c.send+1)];have aB:=hid (C.out.putChans bW hput' (fun b e=>.inl e) (fun b e=>.inr (Qf.own hput' b e).1))
   have aq:∀ q∈[w.heap.size,w.heap.size+1,w.heap.size+1+1,w3.heap.size,w4.heap.size],q<g:=fun q hq=>Br (aT q hq) bV
   have E:=aJ.past (w2:=O.setCell ⟨g,j*7+4,none⟩ (Bb (c.send+1))) ((Bi g _).setCell (Bj g) _) (by have:=aq _ (.head _);omega) aq
   have M:=hid (show QK (fun b=>w6.heap.size≤b∧b<w7.heap.size) (O.setCell ⟨g,j*7+4,none⟩ (Bb (c.send+1))) _ from L.out.on ((Bi 0 _).setCell (BJ _) _) fun b hF=>DN _ _ _ _ (by show b≠g;omega))
   obtain ⟨ay,aI⟩:∃ ay,O.setCell ⟨g,j*7+4,none⟩ (Bb (c.send+1))=ay:=⟨_,rfl⟩;rw [aI] at aB E M;have ag:=hid aI;clear aI aH hput' ao ap C L
   go_upto_region 12 with fail
   refine Qac ag.out ?_;clear f4 z4 k5 aJ b3
   have hap:w.heap.size+1<w3.heap.size∧w.heap.size+1+1<w3.heap.size∧w3.heap.size<w4.heap.size:=by
    have:=bF.out;have:=bG.out;omega
   refine Quf (hid E.r0) (hid E.r4) (hid E.r1) rfl (hid E.r2) rfl (by simp) (by simp) ⟨by omega,by omega,by omega,by omega,by omega⟩ _ (hid ?_)
   intro σ' W' hT bZ b0 e4;rw [e4];have bE:=hid (aB.out.on hT.below fun b bX hZ=>hT.same b (by omega) (by omega))
   have a6:=hid (M.out.on hT.below fun b hF=>hT.same b (by omega) (by omega))
   have bA:=hid (show Bd w W' from E.b.trans ⟨hT.below.os,hT.below.tape,hT.below.output,hT.below.size,fun b hb=>hT.same b (by omega) (by omega)⟩)
   have HSZ:=hid hT.size;clear e4 hT E aB M;go_wp2;refine Qch results90 rfl rfl bZ b0 Qa Qh rfl ⟨bA.out,_,_,by rw [D.out];rfl,?_,?_⟩
   ·have e:QhX s (j:Int) data tmo={ ({ s with sent:=QW s.sent ⟨(j:Int),c.send,Jd ⟨(j:Int),c.ochan,c.send,data,tmo⟩⟩ }:St) with chans:=s.chans.set j c.sent1 }:=by
     unfold QhX;rw [if_pos D.out,aX.out];unfold Qc6 QbP;rw [bB.out];rfl
    rw [e];exact bE.out.holds (fun b hb=>hb.imp id (fun h=>by omega))
   ·have e:QhW s (j:Int) data tmo=⟨(j:Int),c.ochan,c.send,data,tmo⟩:=by
     unfold QhW;rw [if_pos D.out,aX.out]
    rw [e];refine ⟨fun b hb=>hb.2,fun w2 hb hk=>⟨_,rfl,a6.out.2 w2 hb fun b hF=>hk b ⟨.inr (by omega),a6.out.1 b hF⟩⟩⟩
  ·have D:=hid T.out
   have Y:=hid (show YO s i data tmo≠0 by rw [T.out];exact A)
   have e0:(QiG s ⟨i,c.ochan,c.send,data,tmo⟩ (QeO f) c.send != 0)=true:=by simpa using A
   clear A
   go_wp2_with (first | (refine F6.store 1 rfl Qa (by simp) ?_;intro b6 aW bM) | (refine aW.store 2 rfl Qh (by simp) ?_;intro b7 G bN))
   refine Qch results90 rfl rfl G.r1 G.r2 Qa Qh rfl ⟨G.b,_,_,by rw [D.out];rfl,?_,?_⟩
   ·rw [(Qe7 Y.out).1]
    exact Qg _ _ _
   ·rw [(Qe7 Y.out).2]
    exact Jp _ _ _
 ·have D:=hid (HE.out.trans (if_pos hz))
  have Y:=hid (show YO s i data tmo≠0 by rw [D.out];exact hz)
  have e0:(Ja s i [3] != 0)=true:=by simpa using hz
  clear hz HE
  go_wp2_with (first | (refine F4.store 1 rfl Qa (by simp) ?_;intro b6 aW bM) | (refine aW.store 2 rfl Qh (by simp) ?_;intro b7 G bN))
  refine Qch results90 rfl rfl G.r1 G.r2 Qa Qh rfl ⟨G.b,_,_,by rw [D.out];rfl,?_,?_⟩
  ·rw [(Qe7 Y.out).1]
   exact Qg _ _ _
  ·rw [(Qe7 Y.out).2]
   exact Jp _ _ _
end Go.Proofs.YtnedafiokmjkkaaGreatDoor
