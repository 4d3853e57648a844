/-
  The document's Wrong: what is wrong with a state.
-/
import Derived.Test.YtbgdpfeobklnhaaGreatDoorcvSt8RKey
import Derived.Test.YtbgdpfeobklnhaaGreatDoorcvStByOne
import Derived.Test.YtbgdpfeobklnhaaGreatDoorcvRef1All
import Derived.Test.YtbgdpfeobklnhaaGreatDoorcvClRAsk
import Derived.Test.YtbgdpfeobklnhaaGreatDoorcvStWrong
import Derived.BigQuiet
import Derived.Deep.RegionHeld3
import Derived.Deep.RegionWith
namespace Go.Proofs.YtbgdpfeobklnhaaGreatDoor
set_option maxRecDepth 1000000
set_option maxHeartbeats 8000000
open Go.RowKit
def Y8 {α:Type} (l:List α):Nat→Option α
 | 0=>none
 | k+1=>l[k]?
theorem Qg1 {α:Type} (f:α→Int) (lt:α→α→Bool) (p:Option α) (l:List α) (k:Nat) (x:α) (h:l[k]?=some x):YG f lt p (l.drop k)=if f x≠0 then f x else if J9 lt p x=false then 2 else YG f lt (Y8 l (k+1)) (l.drop (k+1)):=by
 rw [Qeo l k x h,YG,show Y8 l (k+1)=some x from h]
theorem Yi (w:World) (N n:Nat):Below N w (w.drewN n):=⟨rfl,rfl,rfl,Nat.le_refl _,fun _ _=>rfl⟩
theorem Qex (l:List Mk) (sv:Value) (N:Nat) (w:World) (hN:N≤w.heap.size) (hv:QB MkR 3 w N sv l) (hl:l.length<2305843009213693952) :
  Calls Tryz.prog 60 #[sv] w fun e w'=>e=.returned (.int .i64 (Qp l))∧Below w.heap.size w w':=by
 obtain ⟨oa,ca,rfl,hca⟩:=hv.shape
 have HV:=hid hv
 clear hv
 generalize hn:l.length=n at *
 have HN:=hid hn
 clear hn
 go_enter Tryz.func60,Tryz.ntmps60
 go_wp2_with fail
 go_loopw [7] (fun i wr=>∃ k:Nat,k≤n∧i=.int .i64 (k:Int)∧Hid (Below w.heap.size w wr∧Qp l=YG Qw QO (Y8 l k) (l.drop k))) (fun i _=>n-(intOf i).toNat)
 case atStart=>exact ⟨0,by omega,rfl,hid ⟨Below.refl _ _,rfl⟩⟩
 case round =>
  obtain ⟨k,hk,rfl,HT⟩:=hrel
  have HBW:=hid HT.out.1
  have HUP:=hid HT.out.2
  clear HT
  have hszw:=HBW.out.size
  by_cases hlt:k<n
  ·obtain ⟨x,hx⟩:∃ x,l[k]?=some x:=⟨l[k]'(by rw [HN.out];exact hlt),List.getElem?_eq_getElem _⟩
   obtain ⟨b,o,rfl,hcells⟩:=HV.out.spot (by omega)
   obtain ⟨hbN,r,hr,hc⟩:=hcells k x hx
   obtain ⟨dv,rfl,hdg⟩:=hr
   obtain ⟨od,cd,rfl,-⟩:=hdg.shape
   have hbl:b<w.heap.size:=by omega
   have f0:=cgo (hc 0 _ rfl) HBW hbl
   have f1:=cgo (hc 1 _ rfl) HBW hbl
   have f2:=cgo (hc 2 _ rfl) HBW hbl
   simp only [Nat.add_zero] at f0
   have hlt':(k:Int)<(n:Int):=by omega
   obtain ⟨w2,hw2⟩:∃ w2,wr.alloc (.cells #[.int .i64 x.chan,.int .i64 x.seq,.slice od x.dig.length cd] 93)=w2:=⟨_,rfl⟩
   have hbr2:=bof hw2
   have HB2:=hid (HBW.out.trans (hbr2.mono hszw))
   have hrow2:Row w2 wr.heap.size 93 [.int .i64 x.chan,.int .i64 x.seq,.slice od x.dig.length cd]:=by rw [← hw2];exact Row.new _ _ _
   obtain ⟨w3,hw3⟩:∃ w3,w2.alloc (.cells #[.int .i64 x.chan] 3)=w3:=⟨_,rfl⟩
   have hb3:=bof hw3
   have HB3:=hgo HB2 hb3
   have hrow3:=hrow2.below hb3 hrow2.lt
   obtain ⟨w4,hw4⟩:∃ w4,w3.alloc (.cells #[.int .i64 x.seq] 3)=w4:=⟨_,rfl⟩
   have hb4:=bof hw4
   have HB4:=hgo HB3 hb4
   have HR4:=hid (hrow3.below hb4 hrow3.lt)
   have q0:w2.cell? ⟨wr.heap.size,0,none⟩=some (.int .i64 x.chan):=hrow2.cell 0
   have q1:w3.cell? ⟨wr.heap.size,1,none⟩=some (.int .i64 x.seq):=hrow3.cell 1
   have HF0:=hid (Q0 0 [x.chan] w2.heap.size 1 w3 (by rw [← hw3];exact Row.new _ _ _) rfl (by decide))
   have HF1:=hid (Q0 1 [x.seq] w3.heap.size 1 w4 (by rw [← hw4];exact Row.new _ _ _) rfl (by decide))
   simp only [List.all_cons,List.all_nil,Bool.and_true] at HF0 HF1
   have HST:=hid (Qg1 Qw QO (Y8 l k) l k x hx)
   have HW2:=hid hw2
   have HW3:=hid hw3
   have HW4:=hid hw4
   have HCS:=hid hcells
   clear hbr2 hrow2 hrow3 hw2 hw3 hw4 hb3 hb4 hcells hc hdg hx
   cases z0:Qn 0 x.chan with
   | false =>
    have Z0:=hid z0
    have HVV:=hid (show Qp l=3 by rw [HUP.out,HST.out];unfold Qw;simp [z0])
    clear z0
    go_upto_region 4 with fail
    rw [HW2.out]
    go_wp2_with fail
    rw [HW3.out]
    refine HF0.out.mono ?_
    rintro e w3' ⟨rfl,h3'⟩
    rw [h3']
    clear h3' w3'
    rw [Z0.out]
    go_wp2
    go_ret
    exact ⟨by rw [HVV.out];first | done | rfl,HB3.out⟩
   | true =>
    have Z0:=hid z0
    cases z1:Qn 1 x.seq with
    | false =>
     have Z1:=hid z1
     have HVV:=hid (show Qp l=3 by rw [HUP.out,HST.out];unfold Qw;simp [z0,z1])
     clear z0 z1
     go_upto_region 4 with fail
     rw [HW2.out]
     go_wp2_with fail
     rw [HW3.out]
     refine HF0.out.mono ?_
     rintro e w3' ⟨rfl,h3'⟩
     rw [h3']
     clear h3' w3'
     rw [Z0.out]
     go_wp2_with fail
     rw [HW4.out]
     refine HF1.out.mono ?_
     rintro e w4' ⟨rfl,h4'⟩
     rw [h4']
     clear h4' w4'
     rw [Z1.out]
     go_wp2
     go_ret
     exact ⟨by rw [HVV.out];first | done | rfl,HB4.out⟩
    | true =>
     have Z1:=hid z1
     by_cases z2:x.dig.length=32
     ·have e2:((x.dig.length:Int) != 32)=false:=by rw [z2];rfl
      have HM:=hid (show Qw x=0 by unfold Qw;simp [z0,z1,z2])
      clear z0 z1 z2
      by_cases hk0:k=0
      ·have hj0:decide (0<k)=false:=by simp <;> omega
       have HVV:=hid (show Qp l=YG Qw QO (Y8 l (k+1)) (l.drop (k+1)) by rw [HUP.out,HST.out,HM.out,hk0];rfl)
       clear hk0
       go_upto_region 4 with fail
       rw [HW2.out]
       go_wp2_with fail
       rw [HW3.out]
       refine HF0.out.mono ?_
       rintro e w3' ⟨rfl,h3'⟩
       rw [h3']
       clear h3' w3'
       rw [Z0.out]
       go_wp2_with fail
       rw [HW4.out]
       refine HF1.out.mono ?_
       rintro e w4' ⟨rfl,h4'⟩
       rw [h4']
       clear h4' w4'
       rw [Z1.out]
       go_upto_region 6 with fail
       have c0:w4.cell? ⟨wr.heap.size,0,none⟩=some (.int .i64 x.chan):=HR4.out.cell 0
       have c1:w4.cell? ⟨wr.heap.size,1,none⟩=some (.int .i64 x.seq):=HR4.out.cell 1
       have c2:w4.cell? ⟨wr.heap.size,2,none⟩=some (.slice od x.dig.length cd):=HR4.out.cell 2
       go_quiet (fail)
       go_wp2
       go_roundw
       case rel=>exact ⟨k+1,by omega,by go_num,hid ⟨HB4.out.trans (Yi _ _ _),HVV.out⟩⟩
       case measure=>simp [intOf];omega
      ·obtain ⟨j,hjk⟩:∃ j,k=j+1:=⟨k-1,by omega⟩
       obtain ⟨y,hy⟩:∃ y,l[j]?=some y:=⟨l[j]'(by rw [HN.out];omega),List.getElem?_eq_getElem _⟩
       obtain ⟨_,r,hr,hc⟩:=HCS.out j y hy
       obtain ⟨dy,rfl,-⟩:=hr
       have p0:=cgo (hc 0 _ rfl) HB4 hbl
       have p1:=cgo (hc 1 _ rfl) HB4 hbl
       simp only [Nat.add_zero] at p0
       have hj1:IntKind.i64.wrap ((k:Int)-1)=(j:Int):=by rw [IntKind.wrap_i64];omega
       have hj0:decide (0<k)=true:=by simp <;> omega
       have hjn:j<n:=by omega
       have hjn':(j:Int)<(n:Int):=by omega
       have HA:=hid (show J9 QO (Y8 l k) x=QO y x by rw [hjk,show Y8 l (j+1)=some y from hy];rfl)
       clear hc hy hk0 hjk
       by_cases h1:y.chan<x.chan
       ·have g1:decide (y.chan<x.chan)=true:=by simpa using h1
        have HL:=hid (show QO y x=true by unfold QO;simp [h1])
        clear h1
        have HVV:=hid (show Qp l=YG Qw QO (Y8 l (k+1)) (l.drop (k+1)) by rw [HUP.out,HST.out,HM.out,HA.out,HL.out];rfl)
        go_upto_region 4 with fail
        rw [HW2.out]
        go_wp2_with fail
        rw [HW3.out]
        refine HF0.out.mono ?_
        rintro e w3' ⟨rfl,h3'⟩
        rw [h3']
        clear h3' w3'
        rw [Z0.out]
        go_wp2_with fail
        rw [HW4.out]
        refine HF1.out.mono ?_
        rintro e w4' ⟨rfl,h4'⟩
        rw [h4']
        clear h4' w4'
        rw [Z1.out]
        go_upto_region 6 with fail
        have c0:w4.cell? ⟨wr.heap.size,0,none⟩=some (.int .i64 x.chan):=HR4.out.cell 0
        have c1:w4.cell? ⟨wr.heap.size,1,none⟩=some (.int .i64 x.seq):=HR4.out.cell 1
        have c2:w4.cell? ⟨wr.heap.size,2,none⟩=some (.slice od x.dig.length cd):=HR4.out.cell 2
        go_quiet (fail)
        go_wp2
        go_roundw
        case rel=>exact ⟨k+1,by omega,by go_num,hid ⟨HB4.out.trans (Yi _ _ _),HVV.out⟩⟩
        case measure=>simp [intOf];omega
       ·have g1:decide (y.chan<x.chan)=false:=by simpa using h1
        by_cases h2:y.chan=x.chan
        ·have g2:(y.chan == x.chan)=true:=by simpa using h2
         by_cases h3:y.seq<x.seq
         ·have g3:decide (y.seq<x.seq)=true:=by simpa using h3
          have HL:=hid (show QO y x=true by unfold QO;simp [h2,h3])
          clear h1 h2 h3
          have HVV:=hid (show Qp l=YG Qw QO (Y8 l (k+1)) (l.drop (k+1)) by rw [HUP.out,HST.out,HM.out,HA.out,HL.out];rfl)
          go_upto_region 4 with fail
          rw [HW2.out]
          go_wp2_with fail
          rw [HW3.out]
          refine HF0.out.mono ?_
          rintro e w3' ⟨rfl,h3'⟩
          rw [h3']
          clear h3' w3'
          rw [Z0.out]
          go_wp2_with fail
          rw [HW4.out]
          refine HF1.out.mono ?_
          rintro e w4' ⟨rfl,h4'⟩
          rw [h4']
          clear h4' w4'
          rw [Z1.out]
          go_upto_region 6 with fail
          have c0:w4.cell? ⟨wr.heap.size,0,none⟩=some (.int .i64 x.chan):=HR4.out.cell 0
          have c1:w4.cell? ⟨wr.heap.size,1,none⟩=some (.int .i64 x.seq):=HR4.out.cell 1
          have c2:w4.cell? ⟨wr.heap.size,2,none⟩=some (.slice od x.dig.length cd):=HR4.out.cell 2
          go_quiet (fail)
          go_wp2
          go_roundw
          case rel=>exact ⟨k+1,by omega,by go_num,hid ⟨HB4.out.trans (Yi _ _ _),HVV.out⟩⟩
          case measure=>simp [intOf];omega
         ·have g3:decide (y.seq<x.seq)=false:=by simpa using h3
          have HL:=hid (show QO y x=false by unfold QO;simp [h2,h3])
          clear h1 h2 h3
          have HVV:=hid (show Qp l=2 by rw [HUP.out,HST.out,HM.out,HA.out,HL.out];rfl)
          go_upto_region 4 with fail
          rw [HW2.out]
          go_wp2_with fail
          rw [HW3.out]
          refine HF0.out.mono ?_
          rintro e w3' ⟨rfl,h3'⟩
          rw [h3']
          clear h3' w3'
          rw [Z0.out]
          go_wp2_with fail
          rw [HW4.out]
          refine HF1.out.mono ?_
          rintro e w4' ⟨rfl,h4'⟩
          rw [h4']
          clear h4' w4'
          rw [Z1.out]
          go_upto_region 6 with fail
          have c0:w4.cell? ⟨wr.heap.size,0,none⟩=some (.int .i64 x.chan):=HR4.out.cell 0
          have c1:w4.cell? ⟨wr.heap.size,1,none⟩=some (.int .i64 x.seq):=HR4.out.cell 1
          have c2:w4.cell? ⟨wr.heap.size,2,none⟩=some (.slice od x.dig.length cd):=HR4.out.cell 2
          go_quiet (fail)
          go_wp2
          go_ret
          exact ⟨by rw [HVV.out];first | done | rfl,HB4.out.trans (Yi _ _ _)⟩
        ·have g2:(y.chan == x.chan)=false:=by simpa using h2
         have HL:=hid (show QO y x=false by unfold QO;simp [h1,h2] <;> omega)
         clear h1 h2
         have HVV:=hid (show Qp l=2 by rw [HUP.out,HST.out,HM.out,HA.out,HL.out];rfl)
         go_upto_region 4 with fail
         rw [HW2.out]
         go_wp2_with fail
         rw [HW3.out]
         refine HF0.out.mono ?_
         rintro e w3' ⟨rfl,h3'⟩
         rw [h3']
         clear h3' w3'
         rw [Z0.out]
         go_wp2_with fail
         rw [HW4.out]
         refine HF1.out.mono ?_
         rintro e w4' ⟨rfl,h4'⟩
         rw [h4']
         clear h4' w4'
         rw [Z1.out]
         go_upto_region 6 with fail
         have c0:w4.cell? ⟨wr.heap.size,0,none⟩=some (.int .i64 x.chan):=HR4.out.cell 0
         have c1:w4.cell? ⟨wr.heap.size,1,none⟩=some (.int .i64 x.seq):=HR4.out.cell 1
         have c2:w4.cell? ⟨wr.heap.size,2,none⟩=some (.slice od x.dig.length cd):=HR4.out.cell 2
         go_quiet (fail)
         go_wp2
         go_ret
         exact ⟨by rw [HVV.out];first | done | rfl,HB4.out.trans (Yi _ _ _)⟩
     ·have e2:((x.dig.length:Int) != 32)=true:=by simp;omega
      have HVV:=hid (show Qp l=2 by rw [HUP.out,HST.out];unfold Qw;simp [z0,z1,z2])
      clear z0 z1 z2
      go_upto_region 4 with fail
      rw [HW2.out]
      go_wp2_with fail
      rw [HW3.out]
      refine HF0.out.mono ?_
      rintro e w3' ⟨rfl,h3'⟩
      rw [h3']
      clear h3' w3'
      rw [Z0.out]
      go_wp2_with fail
      rw [HW4.out]
      refine HF1.out.mono ?_
      rintro e w4' ⟨rfl,h4'⟩
      rw [h4']
      clear h4' w4'
      rw [Z1.out]
      go_upto_region 6 with fail
      have c0:w4.cell? ⟨wr.heap.size,0,none⟩=some (.int .i64 x.chan):=HR4.out.cell 0
      have c1:w4.cell? ⟨wr.heap.size,1,none⟩=some (.int .i64 x.seq):=HR4.out.cell 1
      have c2:w4.cell? ⟨wr.heap.size,2,none⟩=some (.slice od x.dig.length cd):=HR4.out.cell 2
      go_quiet (fail)
      go_wp2
      go_ret
      exact ⟨by rw [HVV.out];first | done | rfl,HB4.out.trans (Yi _ _ _)⟩
  ·have hge:decide ((k:Int)<(n:Int))=false:=by simp;omega
   have HE:=hid (show Qp l=0 by rw [HUP.out,List.drop_eq_nil_of_le (by rw [HN.out];omega)];rfl)
   go_wp2
   go_ret
   exact ⟨by rw [HE.out];first | done | rfl,HBW.out⟩
theorem QeF {s0 s1 s2 s3 s4 s5 s6 s7 s8 s9 A0 Ab Am Ax AI AT B4 Bf Bq BB BM BX C8 Cj Ck Cl Cm Cn Co Cp Cq Cr Cs Ct Cu Cv Cw Cx Cy Cz CA CB CC CD CE CF CG CH CI CJ CK CL CM CN CO CP CQ Dw Dx Dy Dz DA DB DC DD DE CR CS CT CU CV CW CX CY CZ D0 D1 D2 D3 D4 D5 D6 D7 D8 D9 Da Db Dc Dd De Df Dg Dh Di Dj Dk Dl A1 A2 A3 A4 A5 A6 A7 A8 A9 Aa Ac Ad Ae Af Ag Ah Ai Aj Ak Al An Ao Ap Aq Ar As At Au Av Aw Ay Az AA AB AC AD AE AF AG AH AJ AK AL AM AN AO AP AQ AR AS AU AV AW AX AY AZ B0 B1 B2 B3 B5 B6 B7 B8 B9 Ba Bb Bc Bd Be Bg Bh Bi Bj Bk Bl Bm Bn Bo Bp Br Bs Bt Bu Bv Bw Bx By Bz BA BC BD BE BF BG BH BI BJ BK BL BN BO BP BQ BR BS BT BU BV BW BY BZ C0 C1 C2 C3 C4 C5 C6 C7 C9 Ca Cb Cc Cd Ce Cf Cg Ch Ci:Value} (ps:List (Int×Int)) (g:Nat) (w:World) (hg:g<w.heap.size) (hlen:Hid (ps.length=7)) (hc:Hid (∀ k p,ps[k]?=some p→w.cell? ⟨g,k*2,none⟩=some (.int .i64 p.1)∧w.cell? ⟨g,k*2+1,none⟩=some (.int .i64 p.2))) (Q:Exit→Act→World→Prop)
  (hGo:Hid (∀ (u2 u4 Dm Dn Do Dp Dq Dr Ds Dt Du Dv:Value) (w':World),Below w.heap.size w w'→(∀ p∈ps,¬ p.2<p.1)→Q .normal ⟨#[s0,s1,u2,s3,u4,s5,s6,s7,s8,s9,A0,Ab,Am,Ax,AI,AT,B4,Bf,Bq,BB,BM,BX,C8,Cj,Ck,Cl,Cm,Cn,Co,Cp,Cq,Cr,Cs,Ct,Cu,Cv,Cw,Cx,Cy,Cz,CA,CB,CC,CD,CE,CF,CG,CH,CI,CJ,CK,CL,CM,CN,CO,CP,CQ,.slice (some ⟨g,0,none⟩) 7 7,.int .i64 7,Dm,Dn,Do,Dp,Dq,Dr,Ds,Dt,Du,Dv,CR,CS,CT,CU,CV,CW,CX,CY,CZ,D0,D1,D2,D3,D4,D5,D6,D7,D8,D9,Da,Db,Dc,Dd,De,Df,Dg,Dh,Di,Dj,Dk,Dl,A1,A2,A3,A4,A5,A6,A7,A8,A9,Aa,Ac,Ad,Ae,Af,Ag,Ah,Ai,Aj,Ak,Al,An,Ao,Ap,Aq,Ar,As,At,Au,Av,Aw,Ay,Az,AA,AB,AC,AD,AE,AF,AG,AH,AJ,AK,AL,AM,AN,AO,AP,AQ,AR,AS,AU,AV,AW,AX,AY,AZ,B0,B1,B2,B3,B5,B6,B7,B8,B9,Ba,Bb,Bc,Bd,Be,Bg,Bh,Bi,Bj,Bk,Bl,Bm,Bn,Bo,Bp,Br,Bs,Bt,Bu,Bv,Bw,Bx,By,Bz,BA,BC,BD,BE,BF,BG,BH,BI,BJ,BK,BL,BN,BO,BP,BQ,BR,BS,BT,BU,BV,BW,BY,BZ,C0,C1,C2,C3,C4,C5,C6,C7,C9,Ca,Cb,Cc,Cd,Ce,Cf,Cg,Ch,Ci],[]⟩ w'))
  (hRet:Hid (∀ (u4 Dm Dn Do Dp Dq Dr Ds Dt Du Dv:Value) (w':World),Below w.heap.size w w'→(∃ p∈ps,p.2<p.1)→Q .ret ⟨#[s0,s1,.int .i64 5,s3,u4,s5,s6,s7,s8,s9,A0,Ab,Am,Ax,AI,AT,B4,Bf,Bq,BB,BM,BX,C8,Cj,Ck,Cl,Cm,Cn,Co,Cp,Cq,Cr,Cs,Ct,Cu,Cv,Cw,Cx,Cy,Cz,CA,CB,CC,CD,CE,CF,CG,CH,CI,CJ,CK,CL,CM,CN,CO,CP,CQ,.slice (some ⟨g,0,none⟩) 7 7,.int .i64 7,Dm,Dn,Do,Dp,Dq,Dr,Ds,Dt,Du,Dv,CR,CS,CT,CU,CV,CW,CX,CY,CZ,D0,D1,D2,D3,D4,D5,D6,D7,D8,D9,Da,Db,Dc,Dd,De,Df,Dg,Dh,Di,Dj,Dk,Dl,A1,A2,A3,A4,A5,A6,A7,A8,A9,Aa,Ac,Ad,Ae,Af,Ag,Ah,Ai,Aj,Ak,Al,An,Ao,Ap,Aq,Ar,As,At,Au,Av,Aw,Ay,Az,AA,AB,AC,AD,AE,AF,AG,AH,AJ,AK,AL,AM,AN,AO,AP,AQ,AR,AS,AU,AV,AW,AX,AY,AZ,B0,B1,B2,B3,B5,B6,B7,B8,B9,Ba,Bb,Bc,Bd,Be,Bg,Bh,Bi,Bj,Bk,Bl,Bm,Bn,Bo,Bp,Br,Bs,Bt,Bu,Bv,Bw,Bx,By,Bz,BA,BC,BD,BE,BF,BG,BH,BI,BJ,BK,BL,BN,BO,BP,BQ,BR,BS,BT,BU,BV,BW,BY,BZ,C0,C1,C2,C3,C4,C5,C6,C7,C9,Ca,Cb,Cc,Cd,Ce,Cf,Cg,Ch,Ci],[]⟩ w')) :
  Code.wp Tryz.prog ((Tryz.f24.body.bind (inBlock 0)).getD .skip) (Exit.inBlock 0 Q) ⟨#[s0,s1,s2,s3,s4,s5,s6,s7,s8,s9,A0,Ab,Am,Ax,AI,AT,B4,Bf,Bq,BB,BM,BX,C8,Cj,Ck,Cl,Cm,Cn,Co,Cp,Cq,Cr,Cs,Ct,Cu,Cv,Cw,Cx,Cy,Cz,CA,CB,CC,CD,CE,CF,CG,CH,CI,CJ,CK,CL,CM,CN,CO,CP,CQ,.slice (some ⟨g,0,none⟩) 7 7,.int .i64 7,.int .i64 0,Dw,Dx,Dy,Dz,DA,DB,DC,DD,DE,CR,CS,CT,CU,CV,CW,CX,CY,CZ,D0,D1,D2,D3,D4,D5,D6,D7,D8,D9,Da,Db,Dc,Dd,De,Df,Dg,Dh,Di,Dj,Dk,Dl,A1,A2,A3,A4,A5,A6,A7,A8,A9,Aa,Ac,Ad,Ae,Af,Ag,Ah,Ai,Aj,Ak,Al,An,Ao,Ap,Aq,Ar,As,At,Au,Av,Aw,Ay,Az,AA,AB,AC,AD,AE,AF,AG,AH,AJ,AK,AL,AM,AN,AO,AP,AQ,AR,AS,AU,AV,AW,AX,AY,AZ,B0,B1,B2,B3,B5,B6,B7,B8,B9,Ba,Bb,Bc,Bd,Be,Bg,Bh,Bi,Bj,Bk,Bl,Bm,Bn,Bo,Bp,Br,Bs,Bt,Bu,Bv,Bw,Bx,By,Bz,BA,BC,BD,BE,BF,BG,BH,BI,BJ,BK,BL,BN,BO,BP,BQ,BR,BS,BT,BU,BV,BW,BY,BZ,C0,C1,C2,C3,C4,C5,C6,C7,C9,Ca,Cb,Cc,Cd,Ce,Cf,Cg,Ch,Ci],[]⟩ w:=by
 conv=>arg 2;whnf
 conv=>arg 4;dsimp only
 go_loopw [59] (fun i wr=>∃ k:Nat,k≤7∧i=.int .i64 (k:Int)∧Hid (Below w.heap.size w wr∧∀ j p,j<k→ps[j]?=some p→¬ p.2<p.1)) (fun i _=>7-(intOf i).toNat)
 case atStart=>exact ⟨0,by omega,rfl,hid ⟨Below.refl _ _,fun j p h=>by omega⟩⟩
 case round =>
  obtain ⟨k,hk,rfl,HT⟩:=hrel
  have HBW:=hid HT.out.1
  have HUP:=hid HT.out.2
  clear HT
  have hszw:=HBW.out.size
  by_cases hlt:k<7
  ·obtain ⟨p,hp⟩:∃ p,ps[k]?=some p:=⟨ps[k]'(by rw [hlen.out];exact hlt),List.getElem?_eq_getElem _⟩
   obtain ⟨p0,p1⟩:=p
   have f0:=(HBW.out.cell (p:=⟨g,k*2,none⟩) hg).trans (hc.out k _ hp).1
   have f1:=(HBW.out.cell (p:=⟨g,k*2+1,none⟩) hg).trans (hc.out k _ hp).2
   have hlt':(k:Int)<7:=by omega
   obtain ⟨w2,hw2⟩:∃ w2,wr.alloc (.cells #[.int .i64 p0,.int .i64 p1] 101)=w2:=⟨_,rfl⟩
   have hbr2:=bof hw2
   have HB2:=hid (HBW.out.trans (hbr2.mono hszw))
   have hrow2:Row w2 wr.heap.size 101 [.int .i64 p0,.int .i64 p1]:=by rw [← hw2];exact Row.new _ _ _
   have q0:w2.cell? ⟨wr.heap.size,0,none⟩=some (.int .i64 p0):=hrow2.cell 0
   have q1:w2.cell? ⟨wr.heap.size,1,none⟩=some (.int .i64 p1):=hrow2.cell 1
   have HP:=hid hp
   have HW2:=hid hw2
   clear hbr2 hrow2 hw2 hp
   by_cases hz:p1<p0
   ·have e0:decide (p1<p0)=true:=by simpa using hz
    have HBAD:=hid (show ∃ p∈ps,p.2<p.1 from ⟨_,List.mem_of_getElem? HP.out,hz⟩)
    clear hz
    go_upto_region 8 with fail
    rw [HW2.out]
    go_wp2
    apply hRet.out
    ·exact HB2.out
    ·exact HBAD.out
   ·have e0:decide (p1<p0)=false:=by simpa using hz
    have HOK:=hid hz
    clear hz
    go_upto_region 8 with fail
    rw [HW2.out]
    go_wp2
    go_roundw
    case rel=>exact ⟨k+1,by omega,by go_num,hid ⟨HB2.out,fun j p hj hp=>by
     by_cases e:j=k
     ·subst e
      rw [HP.out] at hp
      cases hp
      exact HOK.out
     ·exact HUP.out j p (by omega) hp⟩⟩
    case measure=>simp [intOf];omega
  ·obtain rfl:k=7:=by omega
   go_wp2
   apply hGo.out
   ·exact HBW.out
   ·intro p hp
    obtain ⟨j,hj⟩:=List.getElem?_of_mem hp
    have:=(List.getElem?_eq_some_iff.1 hj).1
    exact HUP.out j p (by rw [← hlen.out];exact this) hj
theorem QgE {s0 s1 s2 s3 s4 s5 s6 s7 s8 s9 A0 Ab Am Ax AI AT B4 Bf Bq BB BM BX C8 Cj Ck Cm Cn Co Cp Cq Cr Cs Ct Cu Cv Cw Cx Cy Cz CA CB CC CD CE CF CG CH CI CJ CK CL CM CN CO CP CQ CR CS CT CU CV CW CX CY CZ D0 D1 D2 D3 D4 Dx Dy Dz DA DB DC DD DE DF D5 D6 D7 D8 D9 Da Db Dc Dd De Df Dg Dh Di Dj Dk Dl Dm A1 A2 A3 A4 A5 A6 A7 A8 A9 Aa Ac Ad Ae Af Ag Ah Ai Aj Ak Al An Ao Ap Aq Ar As At Au Av Aw Ay Az AA AB AC AD AE AF AG AH AJ AK AL AM AN AO AP AQ AR AS AU AV AW AX AY AZ B0 B1 B2 B3 B5 B6 B7 B8 B9 Ba Bb Bc Bd Be Bg Bh Bi Bj Bk Bl Bm Bn Bo Bp Br Bs Bt Bu Bv Bw Bx By Bz BA BC BD BE BF BG BH BI BJ BK BL BN BO BP BQ BR BS BT BU BV BW BY BZ C0 C1 C2 C3 C4 C5 C6 C7 C9 Ca Cb Cc Cd Ce Cf Cg Ch Ci:Value} (l:List Cl) (oa:Option Addr) (ca N:Nat) (w:World) (hN:N≤w.heap.size) (hv:Hid (QB ClR 4 w N (.slice oa l.length ca) l)) (hl:l.length<2305843009213693952) (hfit:Hid (∀ c∈l,c.fits)) (Q:Exit→Act→World→Prop)
  (hGo:Hid (∀ (u2 u6 u7 Dn Do Dp Dq Dr Ds Dt Du Dv Dw:Value) (w':World),Below w.heap.size w w'→Qf Qg l=0→Q .normal ⟨#[s0,s1,u2,s3,s4,s5,u6,u7,s8,s9,A0,Ab,Am,Ax,AI,AT,B4,Bf,Bq,BB,BM,BX,C8,Cj,Ck,Cm,Cn,Co,Cp,Cq,Cr,Cs,Ct,Cu,Cv,Cw,Cx,Cy,Cz,CA,CB,CC,CD,CE,CF,CG,CH,CI,CJ,CK,CL,CM,CN,CO,CP,CQ,CR,CS,CT,CU,CV,CW,CX,CY,CZ,D0,D1,D2,D3,D4,.slice oa l.length ca,.int .i64 (l.length:Int),Dn,Do,Dp,Dq,Dr,Ds,Dt,Du,Dv,Dw,D5,D6,D7,D8,D9,Da,Db,Dc,Dd,De,Df,Dg,Dh,Di,Dj,Dk,Dl,Dm,A1,A2,A3,A4,A5,A6,A7,A8,A9,Aa,Ac,Ad,Ae,Af,Ag,Ah,Ai,Aj,Ak,Al,An,Ao,Ap,Aq,Ar,As,At,Au,Av,Aw,Ay,Az,AA,AB,AC,AD,AE,AF,AG,AH,AJ,AK,AL,AM,AN,AO,AP,AQ,AR,AS,AU,AV,AW,AX,AY,AZ,B0,B1,B2,B3,B5,B6,B7,B8,B9,Ba,Bb,Bc,Bd,Be,Bg,Bh,Bi,Bj,Bk,Bl,Bm,Bn,Bo,Bp,Br,Bs,Bt,Bu,Bv,Bw,Bx,By,Bz,BA,BC,BD,BE,BF,BG,BH,BI,BJ,BK,BL,BN,BO,BP,BQ,BR,BS,BT,BU,BV,BW,BY,BZ,C0,C1,C2,C3,C4,C5,C6,C7,C9,Ca,Cb,Cc,Cd,Ce,Cf,Cg,Ch,Ci],[]⟩ w'))
  (hRet:Hid (∀ (u6 u7 Dn Do Dp Dq Dr Ds Dt Du Dv Dw:Value) (w':World),Below w.heap.size w w'→Qf Qg l≠0→Q .ret ⟨#[s0,s1,.int .i64 (Qf Qg l),s3,s4,s5,u6,u7,s8,s9,A0,Ab,Am,Ax,AI,AT,B4,Bf,Bq,BB,BM,BX,C8,Cj,Ck,Cm,Cn,Co,Cp,Cq,Cr,Cs,Ct,Cu,Cv,Cw,Cx,Cy,Cz,CA,CB,CC,CD,CE,CF,CG,CH,CI,CJ,CK,CL,CM,CN,CO,CP,CQ,CR,CS,CT,CU,CV,CW,CX,CY,CZ,D0,D1,D2,D3,D4,.slice oa l.length ca,.int .i64 (l.length:Int),Dn,Do,Dp,Dq,Dr,Ds,Dt,Du,Dv,Dw,D5,D6,D7,D8,D9,Da,Db,Dc,Dd,De,Df,Dg,Dh,Di,Dj,Dk,Dl,Dm,A1,A2,A3,A4,A5,A6,A7,A8,A9,Aa,Ac,Ad,Ae,Af,Ag,Ah,Ai,Aj,Ak,Al,An,Ao,Ap,Aq,Ar,As,At,Au,Av,Aw,Ay,Az,AA,AB,AC,AD,AE,AF,AG,AH,AJ,AK,AL,AM,AN,AO,AP,AQ,AR,AS,AU,AV,AW,AX,AY,AZ,B0,B1,B2,B3,B5,B6,B7,B8,B9,Ba,Bb,Bc,Bd,Be,Bg,Bh,Bi,Bj,Bk,Bl,Bm,Bn,Bo,Bp,Br,Bs,Bt,Bu,Bv,Bw,Bx,By,Bz,BA,BC,BD,BE,BF,BG,BH,BI,BJ,BK,BL,BN,BO,BP,BQ,BR,BS,BT,BU,BV,BW,BY,BZ,C0,C1,C2,C3,C4,C5,C6,C7,C9,Ca,Cb,Cc,Cd,Ce,Cf,Cg,Ch,Ci],[]⟩ w')) :
  Code.wp Tryz.prog ((Tryz.f24.body.bind (inBlock 2)).getD .skip) (Exit.inBlock 2 Q) ⟨#[s0,s1,s2,s3,s4,s5,s6,s7,s8,s9,A0,Ab,Am,Ax,AI,AT,B4,Bf,Bq,BB,BM,BX,C8,Cj,Ck,Cm,Cn,Co,Cp,Cq,Cr,Cs,Ct,Cu,Cv,Cw,Cx,Cy,Cz,CA,CB,CC,CD,CE,CF,CG,CH,CI,CJ,CK,CL,CM,CN,CO,CP,CQ,CR,CS,CT,CU,CV,CW,CX,CY,CZ,D0,D1,D2,D3,D4,.slice oa l.length ca,.int .i64 (l.length:Int),.int .i64 0,Dx,Dy,Dz,DA,DB,DC,DD,DE,DF,D5,D6,D7,D8,D9,Da,Db,Dc,Dd,De,Df,Dg,Dh,Di,Dj,Dk,Dl,Dm,A1,A2,A3,A4,A5,A6,A7,A8,A9,Aa,Ac,Ad,Ae,Af,Ag,Ah,Ai,Aj,Ak,Al,An,Ao,Ap,Aq,Ar,As,At,Au,Av,Aw,Ay,Az,AA,AB,AC,AD,AE,AF,AG,AH,AJ,AK,AL,AM,AN,AO,AP,AQ,AR,AS,AU,AV,AW,AX,AY,AZ,B0,B1,B2,B3,B5,B6,B7,B8,B9,Ba,Bb,Bc,Bd,Be,Bg,Bh,Bi,Bj,Bk,Bl,Bm,Bn,Bo,Bp,Br,Bs,Bt,Bu,Bv,Bw,Bx,By,Bz,BA,BC,BD,BE,BF,BG,BH,BI,BJ,BK,BL,BN,BO,BP,BQ,BR,BS,BT,BU,BV,BW,BY,BZ,C0,C1,C2,C3,C4,C5,C6,C7,C9,Ca,Cb,Cc,Cd,Ce,Cf,Cg,Ch,Ci],[]⟩ w:=by
 conv=>arg 2;whnf
 conv=>arg 4;dsimp only
 generalize hn:l.length=n at *
 have HN:=hid hn
 clear hn
 go_loopw [72] (fun i wr=>∃ k:Nat,k≤n∧i=.int .i64 (k:Int)∧Hid (Below w.heap.size w wr∧Qf Qg l=Qf Qg (l.drop k))) (fun i _=>n-(intOf i).toNat)
 case atStart=>exact ⟨0,by omega,rfl,hid ⟨Below.refl _ _,rfl⟩⟩
 case round =>
  obtain ⟨k,hk,rfl,HT⟩:=hrel
  have HBW:=hid HT.out.1
  have HUP:=hid HT.out.2
  clear HT
  have hszw:=HBW.out.size
  by_cases hlt:k<n
  ·obtain ⟨x,hx⟩:∃ x,l[k]?=some x:=⟨l[k]'(by rw [HN.out];exact hlt),List.getElem?_eq_getElem _⟩
   have hlt':(k:Int)<(n:Int):=by omega
   obtain ⟨b,o,rfl,hcells⟩:=hv.out.spot (by omega)
   obtain ⟨hbN,r,hr,hc⟩:=hcells k x hx
   obtain ⟨kv,rfl,hkn⟩:=hr
   obtain ⟨ok,ck,rfl,-⟩:=hkn.shape
   have hbl:b<w.heap.size:=by omega
   have f0:=cgo (hc 0 _ rfl) HBW hbl
   have f1:=cgo (hc 1 _ rfl) HBW hbl
   have f2:=cgo (hc 2 _ rfl) HBW hbl
   have f3:=cgo (hc 3 _ rfl) HBW hbl
   simp only [Nat.add_zero] at f0
   obtain ⟨w2,hw2⟩:∃ w2,wr.alloc (.cells #[.string x.chain,.int .i64 x.trust,.bool x.frozen,.slice ok x.known.length ck] 72)=w2:=⟨_,rfl⟩
   have hbr2:=bof hw2
   have HB2:=hid (HBW.out.trans (hbr2.mono hszw))
   have hrow2:Row w2 wr.heap.size 72 [.string x.chain,.int .i64 x.trust,.bool x.frozen,.slice ok x.known.length ck]:=by rw [← hw2];exact Row.new _ _ _
   have q0:w2.cell? ⟨wr.heap.size,0,none⟩=some (.string x.chain):=hrow2.cell 0
   have q1:w2.cell? ⟨wr.heap.size,1,none⟩=some (.int .i64 x.trust):=hrow2.cell 1
   have q2:w2.cell? ⟨wr.heap.size,2,none⟩=some (.bool x.frozen):=hrow2.cell 2
   have q3:w2.cell? ⟨wr.heap.size,3,none⟩=some (.slice ok x.known.length ck):=hrow2.cell 3
   have HCL:=hid (show Calls Tryz.prog 59 #[.agg #[.string x.chain,.int .i64 x.trust,.bool x.frozen,.slice ok x.known.length ck]] w2 _ from Qck x _ N w2 ⟨_,rfl,hkn.below (HB2.out.mono hN)⟩ (Nat.le_trans hN HB2.out.size) (hfit.out x (List.mem_of_getElem? hx)))
   have HST:=hid (YL Qg l k x hx)
   have HW2:=hid hw2
   clear hbr2 hrow2 hw2 hcells hc hkn hx
   by_cases hz:Qg x=0
   ·have HZ:=hid hz
    clear hz
    go_upto_region 14 with fail
    rw [HW2.out]
    go_wp2_with fail
    refine HCL.out.mono ?_
    rintro e w3 ⟨rfl,hb3⟩
    rw [HZ.out]
    have HB3:=hgo HB2 hb3
    have HV2:=hid (show Qf Qg l=Qf Qg (l.drop (k+1)) by rw [HUP.out,HST.out,if_neg (by rw [HZ.out];simp)])
    clear hb3
    go_wp2
    go_roundw
    case rel=>exact ⟨k+1,by omega,by go_num,hid ⟨HB3.out,HV2.out⟩⟩
    case measure=>simp [intOf];omega
   ·have e0:(Qg x != 0)=true:=by simpa using hz
    have HV2:=hid (show Qf Qg l=Qg x by rw [HUP.out,HST.out,if_pos hz])
    have HNZ:=hid hz
    clear hz
    generalize hzz:Qg x=z at *
    clear hzz
    go_upto_region 14 with fail
    rw [HW2.out]
    go_wp2_with fail
    refine HCL.out.mono ?_
    rintro e w3 ⟨rfl,hb3⟩
    have HB3:=hgo HB2 hb3
    clear hb3
    go_wp2
    rw [← HV2.out]
    apply hRet.out
    ·exact HB3.out
    ·rw [HV2.out];exact HNZ.out
  ·have hge:decide ((k:Int)<(n:Int))=false:=by simp;omega
   have HE:=hid (show Qf Qg l=0 by rw [HUP.out,List.drop_eq_nil_of_le (by rw [HN.out];omega)];rfl)
   go_wp2
   apply hGo.out
   ·exact HBW.out
   ·exact HE.out
theorem QgF {s0 s1 s2 s3 s4 s5 s6 s7 s8 s9 A0 A1 Aa Al Aw AH AS B3 Be Bp BA BL BW C7 C8 C9 Ca Cb Cc Cd Ce Cf Cg Ch Ci Cj Ck Cl Cm Co Cp Cq Cr Cs Ct Cu Cv Cw Cx Cy Cz CA CB CC CD CE CF CG CH CI CJ CK CL CM CN CO CP CQ CR CS CT CU CV CW CX CY CZ D0 D1 D2 D3 D4 D5 DJ DK DL DM DN DO DP DQ DR DS DT DU DV DW Dx Dy Dz DA DB DC DD DE DF DG DH DI A2 A3 A4 A5 A6 A7 A8 A9 Ab Ac Ad Ae Af Ag Ah Ai Aj Ak Am An Ao Ap Aq Ar As At Au Av Ax Ay Az AA AB AC AD AE AF AG AI AJ AK AL AM AN AO AP AQ AR AT AU AV AW AX AY AZ B0 B1 B2 B4 B5 B6 B7 B8 B9 Ba Bb Bc Bd Bf Bg Bh Bi Bj Bk Bl Bm Bn Bo Bq Br Bs Bt Bu Bv Bw Bx By Bz BB BC BD BE BF BG BH BI BJ BK BM BN BO BP BQ BR BS BT BU BV BX BY BZ C0 C1 C2 C3 C4 C5 C6:Value} (l:List Cn) (oa:Option Addr) (ca N:Nat) (w:World) (hN:N≤w.heap.size) (hv:Hid (QB CnR 4 w N (.slice oa l.length ca) l)) (hl:l.length<2305843009213693952) (Q:Exit→Act→World→Prop)
  (hGo:Hid (∀ (u2 u9 Di Dj Dk Dl Dm Dn Do Dp Dq Dr Ds Dt Du Dv Dw D6 D7 D8 D9 Da Db Dc Dd De Df Dg Dh:Value) (w':World),Below w.heap.size w w'→Qf Qo l=0→Q .normal ⟨#[s0,s1,u2,s3,s4,s5,s6,s7,s8,u9,A0,A1,Aa,Al,Aw,AH,AS,B3,Be,Bp,BA,BL,BW,C7,C8,C9,Ca,Cb,Cc,Cd,Ce,Cf,Cg,Ch,Ci,Cj,Ck,Cl,Cm,Co,Cp,Cq,Cr,Cs,Ct,Cu,Cv,Cw,Cx,Cy,Cz,CA,CB,CC,CD,CE,CF,CG,CH,CI,CJ,CK,CL,CM,CN,CO,CP,CQ,CR,CS,CT,CU,CV,CW,CX,CY,CZ,D0,D1,D2,D3,D4,D5,.slice oa l.length ca,.int .i64 (l.length:Int),Di,Dj,Dk,Dl,Dm,Dn,Do,Dp,Dq,Dr,Ds,Dt,Du,Dv,Dw,D6,D7,D8,D9,Da,Db,Dc,Dd,De,Df,Dg,Dh,A2,A3,A4,A5,A6,A7,A8,A9,Ab,Ac,Ad,Ae,Af,Ag,Ah,Ai,Aj,Ak,Am,An,Ao,Ap,Aq,Ar,As,At,Au,Av,Ax,Ay,Az,AA,AB,AC,AD,AE,AF,AG,AI,AJ,AK,AL,AM,AN,AO,AP,AQ,AR,AT,AU,AV,AW,AX,AY,AZ,B0,B1,B2,B4,B5,B6,B7,B8,B9,Ba,Bb,Bc,Bd,Bf,Bg,Bh,Bi,Bj,Bk,Bl,Bm,Bn,Bo,Bq,Br,Bs,Bt,Bu,Bv,Bw,Bx,By,Bz,BB,BC,BD,BE,BF,BG,BH,BI,BJ,BK,BM,BN,BO,BP,BQ,BR,BS,BT,BU,BV,BX,BY,BZ,C0,C1,C2,C3,C4,C5,C6],[]⟩ w'))
  (hRet:Hid (∀ (u9 Di Dj Dk Dl Dm Dn Do Dp Dq Dr Ds Dt Du Dv Dw D6 D7 D8 D9 Da Db Dc Dd De Df Dg Dh:Value) (w':World),Below w.heap.size w w'→Qf Qo l≠0→Q .ret ⟨#[s0,s1,.int .i64 (Qf Qo l),s3,s4,s5,s6,s7,s8,u9,A0,A1,Aa,Al,Aw,AH,AS,B3,Be,Bp,BA,BL,BW,C7,C8,C9,Ca,Cb,Cc,Cd,Ce,Cf,Cg,Ch,Ci,Cj,Ck,Cl,Cm,Co,Cp,Cq,Cr,Cs,Ct,Cu,Cv,Cw,Cx,Cy,Cz,CA,CB,CC,CD,CE,CF,CG,CH,CI,CJ,CK,CL,CM,CN,CO,CP,CQ,CR,CS,CT,CU,CV,CW,CX,CY,CZ,D0,D1,D2,D3,D4,D5,.slice oa l.length ca,.int .i64 (l.length:Int),Di,Dj,Dk,Dl,Dm,Dn,Do,Dp,Dq,Dr,Ds,Dt,Du,Dv,Dw,D6,D7,D8,D9,Da,Db,Dc,Dd,De,Df,Dg,Dh,A2,A3,A4,A5,A6,A7,A8,A9,Ab,Ac,Ad,Ae,Af,Ag,Ah,Ai,Aj,Ak,Am,An,Ao,Ap,Aq,Ar,As,At,Au,Av,Ax,Ay,Az,AA,AB,AC,AD,AE,AF,AG,AI,AJ,AK,AL,AM,AN,AO,AP,AQ,AR,AT,AU,AV,AW,AX,AY,AZ,B0,B1,B2,B4,B5,B6,B7,B8,B9,Ba,Bb,Bc,Bd,Bf,Bg,Bh,Bi,Bj,Bk,Bl,Bm,Bn,Bo,Bq,Br,Bs,Bt,Bu,Bv,Bw,Bx,By,Bz,BB,BC,BD,BE,BF,BG,BH,BI,BJ,BK,BM,BN,BO,BP,BQ,BR,BS,BT,BU,BV,BX,BY,BZ,C0,C1,C2,C3,C4,C5,C6],[]⟩ w')) :
  Code.wp Tryz.prog ((Tryz.f24.body.bind (inBlock 4)).getD .skip) (Exit.inBlock 4 Q) ⟨#[s0,s1,s2,s3,s4,s5,s6,s7,s8,s9,A0,A1,Aa,Al,Aw,AH,AS,B3,Be,Bp,BA,BL,BW,C7,C8,C9,Ca,Cb,Cc,Cd,Ce,Cf,Cg,Ch,Ci,Cj,Ck,Cl,Cm,Co,Cp,Cq,Cr,Cs,Ct,Cu,Cv,Cw,Cx,Cy,Cz,CA,CB,CC,CD,CE,CF,CG,CH,CI,CJ,CK,CL,CM,CN,CO,CP,CQ,CR,CS,CT,CU,CV,CW,CX,CY,CZ,D0,D1,D2,D3,D4,D5,.slice oa l.length ca,.int .i64 (l.length:Int),.int .i64 0,DJ,DK,DL,DM,DN,DO,DP,DQ,DR,DS,DT,DU,DV,DW,Dx,Dy,Dz,DA,DB,DC,DD,DE,DF,DG,DH,DI,A2,A3,A4,A5,A6,A7,A8,A9,Ab,Ac,Ad,Ae,Af,Ag,Ah,Ai,Aj,Ak,Am,An,Ao,Ap,Aq,Ar,As,At,Au,Av,Ax,Ay,Az,AA,AB,AC,AD,AE,AF,AG,AI,AJ,AK,AL,AM,AN,AO,AP,AQ,AR,AT,AU,AV,AW,AX,AY,AZ,B0,B1,B2,B4,B5,B6,B7,B8,B9,Ba,Bb,Bc,Bd,Bf,Bg,Bh,Bi,Bj,Bk,Bl,Bm,Bn,Bo,Bq,Br,Bs,Bt,Bu,Bv,Bw,Bx,By,Bz,BB,BC,BD,BE,BF,BG,BH,BI,BJ,BK,BM,BN,BO,BP,BQ,BR,BS,BT,BU,BV,BX,BY,BZ,C0,C1,C2,C3,C4,C5,C6],[]⟩ w:=by
 conv=>arg 2;whnf
 conv=>arg 4;dsimp only
 generalize hn:l.length=n at *
 have HN:=hid hn
 clear hn
 go_loopw [85] (fun i wr=>∃ k:Nat,k≤n∧i=.int .i64 (k:Int)∧Hid (Below w.heap.size w wr∧Qf Qo l=Qf Qo (l.drop k))) (fun i _=>n-(intOf i).toNat)
 case atStart=>exact ⟨0,by omega,rfl,hid ⟨Below.refl _ _,rfl⟩⟩
 case round =>
  obtain ⟨k,hk,rfl,HT⟩:=hrel
  have HBW:=hid HT.out.1
  have HUP:=hid HT.out.2
  clear HT
  have hszw:=HBW.out.size
  by_cases hlt:k<n
  ·obtain ⟨x,hx⟩:∃ x,l[k]?=some x:=⟨l[k]'(by rw [HN.out];exact hlt),List.getElem?_eq_getElem _⟩
   have hlt':(k:Int)<(n:Int):=by omega
   obtain ⟨b,o,rfl,hcells⟩:=hv.out.spot (by omega)
   obtain ⟨hbN,r,hr,hc⟩:=hcells k x hx
   obtain rfl:=hr
   have hbl:b<w.heap.size:=by omega
   have f0:=cgo (hc 0 _ rfl) HBW hbl
   have f1:=cgo (hc 1 _ rfl) HBW hbl
   have f2:=cgo (hc 2 _ rfl) HBW hbl
   have f3:=cgo (hc 3 _ rfl) HBW hbl
   simp only [Nat.add_zero] at f0
   obtain ⟨w2,hw2⟩:∃ w2,wr.alloc (.cells #[.int .i64 x.state,.int .i64 x.client,.int .i64 x.oclient,.int .i64 x.oconn] 60)=w2:=⟨_,rfl⟩
   have hbr2:=bof hw2
   have HB2:=hid (HBW.out.trans (hbr2.mono hszw))
   have hrow2:Row w2 wr.heap.size 60 [.int .i64 x.state,.int .i64 x.client,.int .i64 x.oclient,.int .i64 x.oconn]:=by rw [← hw2];exact Row.new _ _ _
   obtain ⟨w3,hw3⟩:∃ w3,w2.alloc (.cells #[.int .i64 x.client,.int .i64 x.oclient] 3)=w3:=⟨_,rfl⟩
   have hb3:=bof hw3
   have HB3:=hgo HB2 hb3
   have hrow3:=hrow2.below hb3 hrow2.lt
   have HF0:=hid (Q0 0 [x.client,x.oclient] w2.heap.size 2 w3 (by rw [← hw3];exact Row.new _ _ _) rfl (by decide))
   have HW3:=hid hw3
   obtain ⟨w4,hw4⟩:∃ w4,w3.alloc (.cells #[.int .i64 x.oconn] 3)=w4:=⟨_,rfl⟩
   have hb4:=bof hw4
   have HB4:=hgo HB3 hb4
   have hrow4:=hrow3.below hb4 hrow3.lt
   have HF1:=hid (Q0 (-1) [x.oconn] w3.heap.size 1 w4 (by rw [← hw4];exact Row.new _ _ _) rfl (by decide))
   have HW4:=hid hw4
   simp only [List.all_cons,List.all_nil,Bool.and_true] at HF0 HF1
   have q0:w2.cell? ⟨wr.heap.size,0,none⟩=some (.int .i64 x.state):=hrow2.cell 0
   have q1:w2.cell? ⟨wr.heap.size,1,none⟩=some (.int .i64 x.client):=hrow2.cell 1
   have q2:w2.cell? ⟨wr.heap.size,2,none⟩=some (.int .i64 x.oclient):=hrow2.cell 2
   have q1_3:w3.cell? ⟨wr.heap.size,3,none⟩=some (.int .i64 x.oconn):=hrow3.cell 3
   have HST:=hid (YL Qo l k x hx)
   have HW2:=hid hw2
   clear hbr2 hrow2 hw2 hcells hc hx hb3 hw3 hrow3 hb4 hw4 hrow4
   by_cases q0':x.state<1
   ·have e0:decide (x.state<1)=true:=by simpa using q0'
    have HV2:=hid (show Qf Qo l=1 by rw [HUP.out,HST.out];unfold Qo;simp [q0'])
    clear q0'
    go_upto_region 21 with fail
    rw [HW2.out]
    go_wp2
    rw [← HV2.out]
    apply hRet.out
    ·exact HB2.out
    ·rw [HV2.out];decide
   ·have e0:decide (x.state<1)=false:=by simpa using q0'
    by_cases q1':3<x.state
    ·have e1:decide (3<x.state)=true:=by simpa using q1'
     have HV2:=hid (show Qf Qo l=1 by rw [HUP.out,HST.out];unfold Qo;simp [q0',q1'])
     clear q0' q1'
     go_upto_region 21 with fail
     rw [HW2.out]
     go_wp2
     rw [← HV2.out]
     apply hRet.out
     ·exact HB2.out
     ·rw [HV2.out];decide
    ·have e1:decide (3<x.state)=false:=by simpa using q1'
     cases z0_0:Qn 0 x.client with
     | false =>
      have HV2:=hid (show Qf Qo l=3 by rw [HUP.out,HST.out];unfold Qo;simp [q0',q1',z0_0])
      rw [show (Qn 0 x.client && Qn 0 x.oclient)=false by rw [z0_0];first | done | rfl] at HF0
      clear q0' q1' z0_0
      go_upto_region 21 with fail
      rw [HW2.out]
      go_wp2_with fail
      rw [HW3.out]
      refine HF0.out.mono ?_
      rintro e w3' ⟨rfl,h3'⟩
      rw [h3']
      clear h3' w3'
      go_wp2
      rw [← HV2.out]
      apply hRet.out
      ·exact HB3.out
      ·rw [HV2.out];decide
     | true =>
      cases z0_1:Qn 0 x.oclient with
      | false =>
       have HV2:=hid (show Qf Qo l=3 by rw [HUP.out,HST.out];unfold Qo;simp [q0',q1',z0_0,z0_1])
       rw [show (Qn 0 x.client && Qn 0 x.oclient)=false by rw [z0_0,z0_1];first | done | rfl] at HF0
       clear q0' q1' z0_0 z0_1
       go_upto_region 21 with fail
       rw [HW2.out]
       go_wp2_with fail
       rw [HW3.out]
       refine HF0.out.mono ?_
       rintro e w3' ⟨rfl,h3'⟩
       rw [h3']
       clear h3' w3'
       go_wp2
       rw [← HV2.out]
       apply hRet.out
       ·exact HB3.out
       ·rw [HV2.out];decide
      | true =>
       cases z1_0:Qn (-1) x.oconn with
       | false =>
        have HV2:=hid (show Qf Qo l=3 by rw [HUP.out,HST.out];unfold Qo;simp [q0',q1',z0_0,z0_1,z1_0])
        rw [show (Qn 0 x.client && Qn 0 x.oclient)=true by rw [z0_0,z0_1];first | done | rfl] at HF0
        rw [show Qn (-1) x.oconn=false by rw [z1_0];first | done | rfl] at HF1
        clear q0' q1' z0_0 z0_1 z1_0
        go_upto_region 21 with fail
        rw [HW2.out]
        go_wp2_with fail
        rw [HW3.out]
        refine HF0.out.mono ?_
        rintro e w3' ⟨rfl,h3'⟩
        rw [h3']
        clear h3' w3'
        go_wp2_with fail
        rw [HW4.out]
        refine HF1.out.mono ?_
        rintro e w4' ⟨rfl,h4'⟩
        rw [h4']
        clear h4' w4'
        go_wp2
        rw [← HV2.out]
        apply hRet.out
        ·exact HB4.out
        ·rw [HV2.out];decide
       | true =>
        have HV2:=hid (show Qf Qo l=Qf Qo (l.drop (k+1)) by rw [HUP.out,HST.out];unfold Qo;simp [q0',q1',z0_0,z0_1,z1_0])
        rw [show (Qn 0 x.client && Qn 0 x.oclient)=true by rw [z0_0,z0_1];first | done | rfl] at HF0
        rw [show Qn (-1) x.oconn=true by rw [z1_0];first | done | rfl] at HF1
        clear q0' q1' z0_0 z0_1 z1_0
        go_upto_region 21 with fail
        rw [HW2.out]
        go_wp2_with fail
        rw [HW3.out]
        refine HF0.out.mono ?_
        rintro e w3' ⟨rfl,h3'⟩
        rw [h3']
        clear h3' w3'
        go_wp2_with fail
        rw [HW4.out]
        refine HF1.out.mono ?_
        rintro e w4' ⟨rfl,h4'⟩
        rw [h4']
        clear h4' w4'
        go_wp2
        go_roundw
        case rel=>exact ⟨k+1,by omega,by go_num,hid ⟨HB4.out,HV2.out⟩⟩
        case measure=>simp [intOf];omega
  ·have hge:decide ((k:Int)<(n:Int))=false:=by simp;omega
   have HE:=hid (show Qf Qo l=0 by rw [HUP.out,List.drop_eq_nil_of_le (by rw [HN.out];omega)];rfl)
   go_wp2
   apply hGo.out
   ·exact HBW.out
   ·exact HE.out
theorem QgD {s0 s1 s2 s3 s4 s5 s6 s7 s8 s9 A0 Dx Ae Af Ag Ah Ar AC AN AY B9 Bk Bv BG BH BI BJ BK BL BM BN BO BP BQ BR BS BT BU BV BW BX BY BZ C0 C1 C2 C3 C4 C5 C6 C7 C8 C9 Ca Cb Cc Cd Ce Cf Cg Ci Cj Ck Cl Cm Cn Co Cp Cq Cr Cs Ct Cu Cv Cw Cx Cy Cz CA CB CC CD CE CF CG CH CI CJ CK CL CM CN CO CP CQ CR CS CT CU CV A1 A2 A3 A4 A5 A6 A7 A8 A9 Aa Ab Ac Ad Dy Dz DA DB DC DD DE DF DG DH DI DJ DK DL DM DN DO DP DQ DR DS DT DU DV DW DX DY DZ E0 E1 E2 E3 E4 E5 E6 Ai Aj Ak Al Am An Ao Ap Aq As At Au Av Aw Ax Ay Az AA AB AD AE AF AG AH AI AJ AK AL AM AO AP AQ AR AS AT AU AV AW AX AZ B0 B1 B2 B3 B4 B5 B6 B7 B8 Ba Bb Bc Bd Be Bf Bg Bh Bi Bj Bl Bm Bn Bo Bp Bq Br Bs Bt Bu Bw Bx By Bz BA BB BC BD BE BF:Value} (l:List Ch) (oa:Option Addr) (ca N:Nat) (w:World) (hN:N≤w.heap.size) (hv:Hid (QB ChR 7 w N (.slice oa l.length ca) l)) (hl:l.length<2305843009213693952) (Q:Exit→Act→World→Prop)
  (hGo:Hid (∀ (u2 CW CX CY CZ D0 D1 D2 D3 D4 D5 D6 D7 D8 D9 Da Db Dc Dd De Df Dg Dh Di Dj Dk Dl Dm Dn Do Dp Dq Dr Ds Dt Du Dv Dw:Value) (w':World),Below w.heap.size w w'→Qf Qm l=0→Q .normal ⟨#[s0,s1,u2,s3,s4,s5,s6,s7,s8,s9,A0,CW,Ae,Af,Ag,Ah,Ar,AC,AN,AY,B9,Bk,Bv,BG,BH,BI,BJ,BK,BL,BM,BN,BO,BP,BQ,BR,BS,BT,BU,BV,BW,BX,BY,BZ,C0,C1,C2,C3,C4,C5,C6,C7,C8,C9,Ca,Cb,Cc,Cd,Ce,Cf,Cg,Ci,Cj,Ck,Cl,Cm,Cn,Co,Cp,Cq,Cr,Cs,Ct,Cu,Cv,Cw,Cx,Cy,Cz,CA,CB,CC,CD,CE,CF,CG,CH,CI,CJ,CK,CL,CM,CN,CO,CP,CQ,CR,CS,CT,CU,CV,A1,A2,A3,A4,A5,A6,A7,A8,A9,Aa,Ab,Ac,Ad,.slice oa l.length ca,.int .i64 (l.length:Int),CX,CY,CZ,D0,D1,D2,D3,D4,D5,D6,D7,D8,D9,Da,Db,Dc,Dd,De,Df,Dg,Dh,Di,Dj,Dk,Dl,Dm,Dn,Do,Dp,Dq,Dr,Ds,Dt,Du,Dv,Dw,Ai,Aj,Ak,Al,Am,An,Ao,Ap,Aq,As,At,Au,Av,Aw,Ax,Ay,Az,AA,AB,AD,AE,AF,AG,AH,AI,AJ,AK,AL,AM,AO,AP,AQ,AR,AS,AT,AU,AV,AW,AX,AZ,B0,B1,B2,B3,B4,B5,B6,B7,B8,Ba,Bb,Bc,Bd,Be,Bf,Bg,Bh,Bi,Bj,Bl,Bm,Bn,Bo,Bp,Bq,Br,Bs,Bt,Bu,Bw,Bx,By,Bz,BA,BB,BC,BD,BE,BF],[]⟩ w'))
  (hRet:Hid (∀ (CW CX CY CZ D0 D1 D2 D3 D4 D5 D6 D7 D8 D9 Da Db Dc Dd De Df Dg Dh Di Dj Dk Dl Dm Dn Do Dp Dq Dr Ds Dt Du Dv Dw:Value) (w':World),Below w.heap.size w w'→Qf Qm l≠0→Q .ret ⟨#[s0,s1,.int .i64 (Qf Qm l),s3,s4,s5,s6,s7,s8,s9,A0,CW,Ae,Af,Ag,Ah,Ar,AC,AN,AY,B9,Bk,Bv,BG,BH,BI,BJ,BK,BL,BM,BN,BO,BP,BQ,BR,BS,BT,BU,BV,BW,BX,BY,BZ,C0,C1,C2,C3,C4,C5,C6,C7,C8,C9,Ca,Cb,Cc,Cd,Ce,Cf,Cg,Ci,Cj,Ck,Cl,Cm,Cn,Co,Cp,Cq,Cr,Cs,Ct,Cu,Cv,Cw,Cx,Cy,Cz,CA,CB,CC,CD,CE,CF,CG,CH,CI,CJ,CK,CL,CM,CN,CO,CP,CQ,CR,CS,CT,CU,CV,A1,A2,A3,A4,A5,A6,A7,A8,A9,Aa,Ab,Ac,Ad,.slice oa l.length ca,.int .i64 (l.length:Int),CX,CY,CZ,D0,D1,D2,D3,D4,D5,D6,D7,D8,D9,Da,Db,Dc,Dd,De,Df,Dg,Dh,Di,Dj,Dk,Dl,Dm,Dn,Do,Dp,Dq,Dr,Ds,Dt,Du,Dv,Dw,Ai,Aj,Ak,Al,Am,An,Ao,Ap,Aq,As,At,Au,Av,Aw,Ax,Ay,Az,AA,AB,AD,AE,AF,AG,AH,AI,AJ,AK,AL,AM,AO,AP,AQ,AR,AS,AT,AU,AV,AW,AX,AZ,B0,B1,B2,B3,B4,B5,B6,B7,B8,Ba,Bb,Bc,Bd,Be,Bf,Bg,Bh,Bi,Bj,Bl,Bm,Bn,Bo,Bp,Bq,Br,Bs,Bt,Bu,Bw,Bx,By,Bz,BA,BB,BC,BD,BE,BF],[]⟩ w')) :
  Code.wp Tryz.prog ((Tryz.f24.body.bind (inBlock 6)).getD .skip) (Exit.inBlock 6 Q) ⟨#[s0,s1,s2,s3,s4,s5,s6,s7,s8,s9,A0,Dx,Ae,Af,Ag,Ah,Ar,AC,AN,AY,B9,Bk,Bv,BG,BH,BI,BJ,BK,BL,BM,BN,BO,BP,BQ,BR,BS,BT,BU,BV,BW,BX,BY,BZ,C0,C1,C2,C3,C4,C5,C6,C7,C8,C9,Ca,Cb,Cc,Cd,Ce,Cf,Cg,Ci,Cj,Ck,Cl,Cm,Cn,Co,Cp,Cq,Cr,Cs,Ct,Cu,Cv,Cw,Cx,Cy,Cz,CA,CB,CC,CD,CE,CF,CG,CH,CI,CJ,CK,CL,CM,CN,CO,CP,CQ,CR,CS,CT,CU,CV,A1,A2,A3,A4,A5,A6,A7,A8,A9,Aa,Ab,Ac,Ad,.slice oa l.length ca,.int .i64 (l.length:Int),.int .i64 0,Dy,Dz,DA,DB,DC,DD,DE,DF,DG,DH,DI,DJ,DK,DL,DM,DN,DO,DP,DQ,DR,DS,DT,DU,DV,DW,DX,DY,DZ,E0,E1,E2,E3,E4,E5,E6,Ai,Aj,Ak,Al,Am,An,Ao,Ap,Aq,As,At,Au,Av,Aw,Ax,Ay,Az,AA,AB,AD,AE,AF,AG,AH,AI,AJ,AK,AL,AM,AO,AP,AQ,AR,AS,AT,AU,AV,AW,AX,AZ,B0,B1,B2,B3,B4,B5,B6,B7,B8,Ba,Bb,Bc,Bd,Be,Bf,Bg,Bh,Bi,Bj,Bl,Bm,Bn,Bo,Bp,Bq,Br,Bs,Bt,Bu,Bw,Bx,By,Bz,BA,BB,BC,BD,BE,BF],[]⟩ w:=by
 conv=>arg 2;whnf
 conv=>arg 4;dsimp only
 generalize hn:l.length=n at *
 have HN:=hid hn
 clear hn
 go_loopw [115] (fun i wr=>∃ k:Nat,k≤n∧i=.int .i64 (k:Int)∧Hid (Below w.heap.size w wr∧Qf Qm l=Qf Qm (l.drop k))) (fun i _=>n-(intOf i).toNat)
 case atStart=>exact ⟨0,by omega,rfl,hid ⟨Below.refl _ _,rfl⟩⟩
 case round =>
  obtain ⟨k,hk,rfl,HT⟩:=hrel
  have HBW:=hid HT.out.1
  have HUP:=hid HT.out.2
  clear HT
  have hszw:=HBW.out.size
  by_cases hlt:k<n
  ·obtain ⟨x,hx⟩:∃ x,l[k]?=some x:=⟨l[k]'(by rw [HN.out];exact hlt),List.getElem?_eq_getElem _⟩
   have hlt':(k:Int)<(n:Int):=by omega
   obtain ⟨b,o,rfl,hcells⟩:=hv.out.spot (by omega)
   obtain ⟨hbN,r,hr,hc⟩:=hcells k x hx
   obtain rfl:=hr
   have hbl:b<w.heap.size:=by omega
   have f0:=cgo (hc 0 _ rfl) HBW hbl
   have f1:=cgo (hc 1 _ rfl) HBW hbl
   have f2:=cgo (hc 2 _ rfl) HBW hbl
   have f3:=cgo (hc 3 _ rfl) HBW hbl
   have f4:=cgo (hc 4 _ rfl) HBW hbl
   have f5:=cgo (hc 5 _ rfl) HBW hbl
   have f6:=cgo (hc 6 _ rfl) HBW hbl
   simp only [Nat.add_zero] at f0
   obtain ⟨w2,hw2⟩:∃ w2,wr.alloc (.cells #[.int .i64 x.state,.bool x.ordered,.int .i64 x.conn,.int .i64 x.ochan,.int .i64 x.send,.int .i64 x.recv,.int .i64 x.ack] 54)=w2:=⟨_,rfl⟩
   have hbr2:=bof hw2
   have HB2:=hid (HBW.out.trans (hbr2.mono hszw))
   have hrow2:Row w2 wr.heap.size 54 [.int .i64 x.state,.bool x.ordered,.int .i64 x.conn,.int .i64 x.ochan,.int .i64 x.send,.int .i64 x.recv,.int .i64 x.ack]:=by rw [← hw2];exact Row.new _ _ _
   obtain ⟨w3,hw3⟩:∃ w3,w2.alloc (.cells #[.int .i64 x.conn] 3)=w3:=⟨_,rfl⟩
   have hb3:=bof hw3
   have HB3:=hgo HB2 hb3
   have hrow3:=hrow2.below hb3 hrow2.lt
   have HF0:=hid (Q0 0 [x.conn] w2.heap.size 1 w3 (by rw [← hw3];exact Row.new _ _ _) rfl (by decide))
   have HW3:=hid hw3
   obtain ⟨w4,hw4⟩:∃ w4,w3.alloc (.cells #[.int .i64 x.ochan] 3)=w4:=⟨_,rfl⟩
   have hb4:=bof hw4
   have HB4:=hgo HB3 hb4
   have hrow4:=hrow3.below hb4 hrow3.lt
   have HF1:=hid (Q0 (-1) [x.ochan] w3.heap.size 1 w4 (by rw [← hw4];exact Row.new _ _ _) rfl (by decide))
   have HW4:=hid hw4
   obtain ⟨w5,hw5⟩:∃ w5,w4.alloc (.cells #[.int .i64 x.send,.int .i64 x.recv,.int .i64 x.ack] 3)=w5:=⟨_,rfl⟩
   have hb5:=bof hw5
   have HB5:=hgo HB4 hb5
   have hrow5:=hrow4.below hb5 hrow4.lt
   have HF2:=hid (Q0 1 [x.send,x.recv,x.ack] w4.heap.size 3 w5 (by rw [← hw5];exact Row.new _ _ _) rfl (by decide))
   have HW5:=hid hw5
   simp only [List.all_cons,List.all_nil,Bool.and_true] at HF0 HF1 HF2
   have q0:w2.cell? ⟨wr.heap.size,0,none⟩=some (.int .i64 x.state):=hrow2.cell 0
   have q2:w2.cell? ⟨wr.heap.size,2,none⟩=some (.int .i64 x.conn):=hrow2.cell 2
   have q1_3:w3.cell? ⟨wr.heap.size,3,none⟩=some (.int .i64 x.ochan):=hrow3.cell 3
   have q2_4:w4.cell? ⟨wr.heap.size,4,none⟩=some (.int .i64 x.send):=hrow4.cell 4
   have q2_5:w4.cell? ⟨wr.heap.size,5,none⟩=some (.int .i64 x.recv):=hrow4.cell 5
   have q2_6:w4.cell? ⟨wr.heap.size,6,none⟩=some (.int .i64 x.ack):=hrow4.cell 6
   have HST:=hid (YL Qm l k x hx)
   have HW2:=hid hw2
   clear hbr2 hrow2 hw2 hcells hc hx hb3 hw3 hrow3 hb4 hw4 hrow4 hb5 hw5 hrow5
   by_cases q0':x.state<1
   ·have e0:decide (x.state<1)=true:=by simpa using q0'
    have HV2:=hid (show Qf Qm l=1 by rw [HUP.out,HST.out];unfold Qm;simp [q0'])
    clear q0'
    go_upto_region 29 with fail
    rw [HW2.out]
    go_wp2
    rw [← HV2.out]
    apply hRet.out
    ·exact HB2.out
    ·rw [HV2.out];decide
   ·have e0:decide (x.state<1)=false:=by simpa using q0'
    by_cases q1':4<x.state
    ·have e1:decide (4<x.state)=true:=by simpa using q1'
     have HV2:=hid (show Qf Qm l=1 by rw [HUP.out,HST.out];unfold Qm;simp [q0',q1'])
     clear q0' q1'
     go_upto_region 29 with fail
     rw [HW2.out]
     go_wp2
     rw [← HV2.out]
     apply hRet.out
     ·exact HB2.out
     ·rw [HV2.out];decide
    ·have e1:decide (4<x.state)=false:=by simpa using q1'
     cases z0_0:Qn 0 x.conn with
     | false =>
      have HV2:=hid (show Qf Qm l=3 by rw [HUP.out,HST.out];unfold Qm;simp [q0',q1',z0_0])
      rw [show Qn 0 x.conn=false by rw [z0_0];first | done | rfl] at HF0
      clear q0' q1' z0_0
      go_upto_region 29 with fail
      rw [HW2.out]
      go_wp2_with fail
      rw [HW3.out]
      refine HF0.out.mono ?_
      rintro e w3' ⟨rfl,h3'⟩
      rw [h3']
      clear h3' w3'
      go_wp2
      rw [← HV2.out]
      apply hRet.out
      ·exact HB3.out
      ·rw [HV2.out];decide
     | true =>
      cases z1_0:Qn (-1) x.ochan with
      | false =>
       have HV2:=hid (show Qf Qm l=3 by rw [HUP.out,HST.out];unfold Qm;simp [q0',q1',z0_0,z1_0])
       rw [show Qn 0 x.conn=true by rw [z0_0];first | done | rfl] at HF0
       rw [show Qn (-1) x.ochan=false by rw [z1_0];first | done | rfl] at HF1
       clear q0' q1' z0_0 z1_0
       go_upto_region 29 with fail
       rw [HW2.out]
       go_wp2_with fail
       rw [HW3.out]
       refine HF0.out.mono ?_
       rintro e w3' ⟨rfl,h3'⟩
       rw [h3']
       clear h3' w3'
       go_wp2_with fail
       rw [HW4.out]
       refine HF1.out.mono ?_
       rintro e w4' ⟨rfl,h4'⟩
       rw [h4']
       clear h4' w4'
       go_wp2
       rw [← HV2.out]
       apply hRet.out
       ·exact HB4.out
       ·rw [HV2.out];decide
      | true =>
       cases z2_0:Qn 1 x.send with
       | false =>
        have HV2:=hid (show Qf Qm l=3 by rw [HUP.out,HST.out];unfold Qm;simp [q0',q1',z0_0,z1_0,z2_0])
        rw [show Qn 0 x.conn=true by rw [z0_0];first | done | rfl] at HF0
        rw [show Qn (-1) x.ochan=true by rw [z1_0];first | done | rfl] at HF1
        rw [show (Qn 1 x.send && (Qn 1 x.recv && Qn 1 x.ack))=false by rw [z2_0];first | done | rfl] at HF2
        clear q0' q1' z0_0 z1_0 z2_0
        go_upto_region 29 with fail
        rw [HW2.out]
        go_wp2_with fail
        rw [HW3.out]
        refine HF0.out.mono ?_
        rintro e w3' ⟨rfl,h3'⟩
        rw [h3']
        clear h3' w3'
        go_wp2_with fail
        rw [HW4.out]
        refine HF1.out.mono ?_
        rintro e w4' ⟨rfl,h4'⟩
        rw [h4']
        clear h4' w4'
        go_wp2_with fail
        rw [HW5.out]
        refine HF2.out.mono ?_
        rintro e w5' ⟨rfl,h5'⟩
        rw [h5']
        clear h5' w5'
        go_wp2
        rw [← HV2.out]
        apply hRet.out
        ·exact HB5.out
        ·rw [HV2.out];decide
       | true =>
        cases z2_1:Qn 1 x.recv with
        | false =>
         have HV2:=hid (show Qf Qm l=3 by rw [HUP.out,HST.out];unfold Qm;simp [q0',q1',z0_0,z1_0,z2_0,z2_1])
         rw [show Qn 0 x.conn=true by rw [z0_0];first | done | rfl] at HF0
         rw [show Qn (-1) x.ochan=true by rw [z1_0];first | done | rfl] at HF1
         rw [show (Qn 1 x.send && (Qn 1 x.recv && Qn 1 x.ack))=false by rw [z2_0,z2_1];first | done | rfl] at HF2
         clear q0' q1' z0_0 z1_0 z2_0 z2_1
         go_upto_region 29 with fail
         rw [HW2.out]
         go_wp2_with fail
         rw [HW3.out]
         refine HF0.out.mono ?_
         rintro e w3' ⟨rfl,h3'⟩
         rw [h3']
         clear h3' w3'
         go_wp2_with fail
         rw [HW4.out]
         refine HF1.out.mono ?_
         rintro e w4' ⟨rfl,h4'⟩
         rw [h4']
         clear h4' w4'
         go_wp2_with fail
         rw [HW5.out]
         refine HF2.out.mono ?_
         rintro e w5' ⟨rfl,h5'⟩
         rw [h5']
         clear h5' w5'
         go_wp2
         rw [← HV2.out]
         apply hRet.out
         ·exact HB5.out
         ·rw [HV2.out];decide
        | true =>
         cases z2_2:Qn 1 x.ack with
         | false =>
          have HV2:=hid (show Qf Qm l=3 by rw [HUP.out,HST.out];unfold Qm;simp [q0',q1',z0_0,z1_0,z2_0,z2_1,z2_2])
          rw [show Qn 0 x.conn=true by rw [z0_0];first | done | rfl] at HF0
          rw [show Qn (-1) x.ochan=true by rw [z1_0];first | done | rfl] at HF1
          rw [show (Qn 1 x.send && (Qn 1 x.recv && Qn 1 x.ack))=false by rw [z2_0,z2_1,z2_2];first | done | rfl] at HF2
          clear q0' q1' z0_0 z1_0 z2_0 z2_1 z2_2
          go_upto_region 29 with fail
          rw [HW2.out]
          go_wp2_with fail
          rw [HW3.out]
          refine HF0.out.mono ?_
          rintro e w3' ⟨rfl,h3'⟩
          rw [h3']
          clear h3' w3'
          go_wp2_with fail
          rw [HW4.out]
          refine HF1.out.mono ?_
          rintro e w4' ⟨rfl,h4'⟩
          rw [h4']
          clear h4' w4'
          go_wp2_with fail
          rw [HW5.out]
          refine HF2.out.mono ?_
          rintro e w5' ⟨rfl,h5'⟩
          rw [h5']
          clear h5' w5'
          go_wp2
          rw [← HV2.out]
          apply hRet.out
          ·exact HB5.out
          ·rw [HV2.out];decide
         | true =>
          have HV2:=hid (show Qf Qm l=Qf Qm (l.drop (k+1)) by rw [HUP.out,HST.out];unfold Qm;simp [q0',q1',z0_0,z1_0,z2_0,z2_1,z2_2])
          rw [show Qn 0 x.conn=true by rw [z0_0];first | done | rfl] at HF0
          rw [show Qn (-1) x.ochan=true by rw [z1_0];first | done | rfl] at HF1
          rw [show (Qn 1 x.send && (Qn 1 x.recv && Qn 1 x.ack))=true by rw [z2_0,z2_1,z2_2];first | done | rfl] at HF2
          clear q0' q1' z0_0 z1_0 z2_0 z2_1 z2_2
          go_upto_region 29 with fail
          rw [HW2.out]
          go_wp2_with fail
          rw [HW3.out]
          refine HF0.out.mono ?_
          rintro e w3' ⟨rfl,h3'⟩
          rw [h3']
          clear h3' w3'
          go_wp2_with fail
          rw [HW4.out]
          refine HF1.out.mono ?_
          rintro e w4' ⟨rfl,h4'⟩
          rw [h4']
          clear h4' w4'
          go_wp2_with fail
          rw [HW5.out]
          refine HF2.out.mono ?_
          rintro e w5' ⟨rfl,h5'⟩
          rw [h5']
          clear h5' w5'
          go_wp2
          go_roundw
          case rel=>exact ⟨k+1,by omega,by go_num,hid ⟨HB5.out,HV2.out⟩⟩
          case measure=>simp [intOf];omega
  ·have hge:decide ((k:Int)<(n:Int))=false:=by simp;omega
   have HE:=hid (show Qf Qm l=0 by rw [HUP.out,List.drop_eq_nil_of_le (by rw [HN.out];omega)];rfl)
   go_wp2
   apply hGo.out
   ·exact HBW.out
   ·exact HE.out
theorem QgG {s0 s1 s2 s3 s4 s5 s6 s7 s8 s9 A0 Ab Am Dw Dx AR AZ B1 Bc Bn By BJ BU C5 C6 C7 C8 C9 Ca Cb Cc Cd Ce Cf Cg Ch Ci Cj Ck Cl Cm Cn Co Cp Cq Cr Cs Ct Cu Cv Cw Cx Cy Cz CA CB CC CD CE CF CG CH CI CJ CK CL CM CN CO CP CQ CR CS CT CU CV CW CX CY CZ D0 D1 D2 D3 D4 D5 D6 D7 D8 D9 Da Db Dc Dd De Df Dg Dh Di Dj A1 A2 A3 A4 A5 A6 A7 A8 A9 Aa Ac Ad Ae Af Ag Ah Ai Aj Ak Al An Ao Ap Aq Ar As At Au Av Aw Ax Ay Az AA AB AC AD AE AF AG AH AI AJ AK AL AM AN AO AP AQ AS AT AU AV AW AX AY Dy Dz DA DB DC DD DE DF DG B0 B2 B3 B4 B5 B6 B7 B8 B9 Ba Bb Bd Be Bf Bg Bh Bi Bj Bk Bl Bm Bo Bp Bq Br Bs Bt Bu Bv Bw Bx Bz BA BB BC BD BE BF BG BH BI BK BL BM BN BO BP BQ BR BS BT BV BW BX BY BZ C0 C1 C2 C3 C4:Value} (l:List (List Mk)) (g N:Nat) (w:World) (hN:N≤w.heap.size) (hg:g<w.heap.size) (hlen:Hid (l.length=3)) (hc:Hid (∀ k x,l[k]?=some x→∃ o c,w.cell? ⟨g,k,none⟩=some (.slice o x.length c)∧QB MkR 3 w N (.slice o x.length c) x∧x.length<2305843009213693952)) (Q:Exit→Act→World→Prop)
  (hGo:Hid (∀ (u2 Dk Dl Dm Dn Do Dp Dq Dr Ds Dt Du Dv:Value) (w':World),Below w.heap.size w w'→Qf Qp l=0→Q .normal ⟨#[s0,s1,u2,s3,s4,s5,s6,s7,s8,s9,A0,Ab,Am,Dk,Dl,AR,AZ,B1,Bc,Bn,By,BJ,BU,C5,C6,C7,C8,C9,Ca,Cb,Cc,Cd,Ce,Cf,Cg,Ch,Ci,Cj,Ck,Cl,Cm,Cn,Co,Cp,Cq,Cr,Cs,Ct,Cu,Cv,Cw,Cx,Cy,Cz,CA,CB,CC,CD,CE,CF,CG,CH,CI,CJ,CK,CL,CM,CN,CO,CP,CQ,CR,CS,CT,CU,CV,CW,CX,CY,CZ,D0,D1,D2,D3,D4,D5,D6,D7,D8,D9,Da,Db,Dc,Dd,De,Df,Dg,Dh,Di,Dj,A1,A2,A3,A4,A5,A6,A7,A8,A9,Aa,Ac,Ad,Ae,Af,Ag,Ah,Ai,Aj,Ak,Al,An,Ao,Ap,Aq,Ar,As,At,Au,Av,Aw,Ax,Ay,Az,AA,AB,AC,AD,AE,AF,AG,AH,AI,AJ,AK,AL,AM,AN,AO,AP,AQ,AS,AT,AU,AV,AW,AX,AY,.slice (some ⟨g,0,none⟩) 3 3,.int .i64 3,Dm,Dn,Do,Dp,Dq,Dr,Ds,Dt,Du,Dv,B0,B2,B3,B4,B5,B6,B7,B8,B9,Ba,Bb,Bd,Be,Bf,Bg,Bh,Bi,Bj,Bk,Bl,Bm,Bo,Bp,Bq,Br,Bs,Bt,Bu,Bv,Bw,Bx,Bz,BA,BB,BC,BD,BE,BF,BG,BH,BI,BK,BL,BM,BN,BO,BP,BQ,BR,BS,BT,BV,BW,BX,BY,BZ,C0,C1,C2,C3,C4],[]⟩ w'))
  (hRet:Hid (∀ (Dk Dl Dm Dn Do Dp Dq Dr Ds Dt Du Dv:Value) (w':World),Below w.heap.size w w'→Qf Qp l≠0→Q .ret ⟨#[s0,s1,.int .i64 (Qf Qp l),s3,s4,s5,s6,s7,s8,s9,A0,Ab,Am,Dk,Dl,AR,AZ,B1,Bc,Bn,By,BJ,BU,C5,C6,C7,C8,C9,Ca,Cb,Cc,Cd,Ce,Cf,Cg,Ch,Ci,Cj,Ck,Cl,Cm,Cn,Co,Cp,Cq,Cr,Cs,Ct,Cu,Cv,Cw,Cx,Cy,Cz,CA,CB,CC,CD,CE,CF,CG,CH,CI,CJ,CK,CL,CM,CN,CO,CP,CQ,CR,CS,CT,CU,CV,CW,CX,CY,CZ,D0,D1,D2,D3,D4,D5,D6,D7,D8,D9,Da,Db,Dc,Dd,De,Df,Dg,Dh,Di,Dj,A1,A2,A3,A4,A5,A6,A7,A8,A9,Aa,Ac,Ad,Ae,Af,Ag,Ah,Ai,Aj,Ak,Al,An,Ao,Ap,Aq,Ar,As,At,Au,Av,Aw,Ax,Ay,Az,AA,AB,AC,AD,AE,AF,AG,AH,AI,AJ,AK,AL,AM,AN,AO,AP,AQ,AS,AT,AU,AV,AW,AX,AY,.slice (some ⟨g,0,none⟩) 3 3,.int .i64 3,Dm,Dn,Do,Dp,Dq,Dr,Ds,Dt,Du,Dv,B0,B2,B3,B4,B5,B6,B7,B8,B9,Ba,Bb,Bd,Be,Bf,Bg,Bh,Bi,Bj,Bk,Bl,Bm,Bo,Bp,Bq,Br,Bs,Bt,Bu,Bv,Bw,Bx,Bz,BA,BB,BC,BD,BE,BF,BG,BH,BI,BK,BL,BM,BN,BO,BP,BQ,BR,BS,BT,BV,BW,BX,BY,BZ,C0,C1,C2,C3,C4],[]⟩ w')) :
  Code.wp Tryz.prog ((Tryz.f24.body.bind (inBlock 8)).getD .skip) (Exit.inBlock 8 Q) ⟨#[s0,s1,s2,s3,s4,s5,s6,s7,s8,s9,A0,Ab,Am,Dw,Dx,AR,AZ,B1,Bc,Bn,By,BJ,BU,C5,C6,C7,C8,C9,Ca,Cb,Cc,Cd,Ce,Cf,Cg,Ch,Ci,Cj,Ck,Cl,Cm,Cn,Co,Cp,Cq,Cr,Cs,Ct,Cu,Cv,Cw,Cx,Cy,Cz,CA,CB,CC,CD,CE,CF,CG,CH,CI,CJ,CK,CL,CM,CN,CO,CP,CQ,CR,CS,CT,CU,CV,CW,CX,CY,CZ,D0,D1,D2,D3,D4,D5,D6,D7,D8,D9,Da,Db,Dc,Dd,De,Df,Dg,Dh,Di,Dj,A1,A2,A3,A4,A5,A6,A7,A8,A9,Aa,Ac,Ad,Ae,Af,Ag,Ah,Ai,Aj,Ak,Al,An,Ao,Ap,Aq,Ar,As,At,Au,Av,Aw,Ax,Ay,Az,AA,AB,AC,AD,AE,AF,AG,AH,AI,AJ,AK,AL,AM,AN,AO,AP,AQ,AS,AT,AU,AV,AW,AX,AY,.slice (some ⟨g,0,none⟩) 3 3,.int .i64 3,.int .i64 0,Dy,Dz,DA,DB,DC,DD,DE,DF,DG,B0,B2,B3,B4,B5,B6,B7,B8,B9,Ba,Bb,Bd,Be,Bf,Bg,Bh,Bi,Bj,Bk,Bl,Bm,Bo,Bp,Bq,Br,Bs,Bt,Bu,Bv,Bw,Bx,Bz,BA,BB,BC,BD,BE,BF,BG,BH,BI,BK,BL,BM,BN,BO,BP,BQ,BR,BS,BT,BV,BW,BX,BY,BZ,C0,C1,C2,C3,C4],[]⟩ w:=by
 conv=>arg 2;whnf
 conv=>arg 4;dsimp only
 have HN:=hlen
 go_loopw [159] (fun i wr=>∃ k:Nat,k≤3∧i=.int .i64 (k:Int)∧Hid (Below w.heap.size w wr∧Qf Qp l=Qf Qp (l.drop k))) (fun i _=>3-(intOf i).toNat)
 case atStart=>exact ⟨0,by omega,rfl,hid ⟨Below.refl _ _,rfl⟩⟩
 case round =>
  obtain ⟨k,hk,rfl,HT⟩:=hrel
  have HBW:=hid HT.out.1
  have HUP:=hid HT.out.2
  clear HT
  have hszw:=HBW.out.size
  by_cases hlt:k<3
  ·obtain ⟨x,hx⟩:∃ x,l[k]?=some x:=⟨l[k]'(by rw [HN.out];exact hlt),List.getElem?_eq_getElem _⟩
   have hlt':(k:Int)<3:=by omega
   obtain ⟨ob,cb,hcell,hm,hlx⟩:=hc.out k x hx
   have f0:=(HBW.out.cell (p:=⟨g,k,none⟩) hg).trans hcell
   have HCL:=hid (Qex x _ N wr (Nat.le_trans hN hszw) (hm.below MkR.stays (HBW.out.mono hN)) hlx)
   have HST:=hid (YL Qp l k x hx)
   clear hx hm hlx hcell
   by_cases hz:Qp x=0
   ·have HZ:=hid hz
    clear hz
    go_wp2_with fail
    refine HCL.out.mono ?_
    rintro e w3 ⟨rfl,hb3⟩
    rw [HZ.out]
    have HB3:=hid (HBW.out.trans (hb3.mono hszw))
    have HV2:=hid (show Qf Qp l=Qf Qp (l.drop (k+1)) by rw [HUP.out,HST.out,if_neg (by rw [HZ.out];simp)])
    clear hb3
    go_wp2
    go_roundw
    case rel=>exact ⟨k+1,by omega,by go_num,hid ⟨HB3.out,HV2.out⟩⟩
    case measure=>simp [intOf];omega
   ·have e0:(Qp x != 0)=true:=by simpa using hz
    have HV2:=hid (show Qf Qp l=Qp x by rw [HUP.out,HST.out,if_pos hz])
    have HNZ:=hid hz
    clear hz
    generalize hzz:Qp x=z at *
    clear hzz
    go_wp2_with fail
    refine HCL.out.mono ?_
    rintro e w3 ⟨rfl,hb3⟩
    have HB3:=hid (HBW.out.trans (hb3.mono hszw))
    clear hb3
    go_wp2
    rw [← HV2.out]
    apply hRet.out
    ·exact HB3.out
    ·rw [HV2.out];exact HNZ.out
  ·obtain rfl:k=3:=by omega
   have HE:=hid (show Qf Qp l=0 by rw [HUP.out,List.drop_eq_nil_of_le (by rw [HN.out];omega)];rfl)
   go_wp2
   apply hGo.out
   ·exact HBW.out
   ·exact HE.out
theorem ZX:∀ (a:List UInt8),Op.bytesLess a a=false
 | []=>rfl
 | x :: a=>by unfold Op.bytesLess;rw [ZX a];simp
theorem Qc2 {a b:ByteArray} (h:(a.toList == b.toList)=true):decide (a=b)=true:=by
 have h':=beq_iff_eq.1 h
 rw [ByteArray.toList_eq,ByteArray.toList_eq] at h'
 exact decide_eq_true (ByteArray.ext (Array.toList_inj.1 h'))
theorem Qfi {a b:ByteArray} (h:(a.toList == b.toList)=false):decide (a=b)=false :=
 decide_eq_false fun e=>by rw [e] at h;simp at h
theorem Qa2 {p:Pu} (h:p.owner.size=0∨40<p.owner.size∨p.denom.size=0∨40<p.denom.size):QA p=4:=by
 unfold QA QbR
 rw [if_pos]
 rw [Bool.eq_false_iff]
 intro e
 simp at e
 omega
theorem QbS {s:ByteArray} (h1:¬ s.size=0) (h2:¬ 40<s.size):QbR s=true:=by unfold QbR;simp;omega
theorem Qh0 {p:Pu} (h:¬ (p.owner.size=0∨40<p.owner.size∨p.denom.size=0∨40<p.denom.size)) (ha:p.amount=0):QA p=3:=by
 unfold QA
 rw [QbS (by omega) (by omega),QbS (by omega) (by omega),if_neg (by decide),if_pos ha]
theorem QhZ {p:Pu} (h:¬ (p.owner.size=0∨40<p.owner.size∨p.denom.size=0∨40<p.denom.size)) (ha:¬ p.amount=0):QA p=0:=by
 unfold QA
 rw [QbS (by omega) (by omega),QbS (by omega) (by omega),if_neg (by decide),if_neg ha]
theorem QgH {s0 s2 s3 s4 s5 s6 s7 s8 s9 A0 Ab Am Ax AI Dw Dx Dy Bd Be Bf Bg Bh Bi Bj Bk Bl Bm Bn Bo Bp Bq Br Bs Bt Bu Bv Bw Bx By Bz BA BB BC BD BE BF BG BH BI BJ BK BL BM BN BO BP BQ BR BS BT BU BV BW BX BY BZ C0 C1 C2 C3 C4 C5 C6 C7 C8 C9 Ca Cb Cc Cd Ce Cf Cg Ch Ci Cj Ck Cl Cm Cn Co Cp Cq Cr Cs Ct Cu Cv Cw A1 A2 A3 A4 A5 A6 A7 A8 A9 Aa Ac Ad Ae Af Ag Ah Ai Aj Ak Al An Ao Ap Aq Ar As At Au Av Aw Ay Az AA AB AC AD AE AF AG AH AJ AK AL AM AN AO AP AQ AR AS AT AU AV AW AX AY AZ B0 B1 B2 B3 B4 B5 B6 B7 B8 B9 Ba Bb Bc Dz DA DB DC DD DE DF DG DH DI DJ DK DL DM DN DO DP DQ DR DS DT DU DV DW DX DY DZ E0 E1 E2 E3 E4 E5 E6 E7 E8 E9 Ea Eb Ec Ed Ee Ef Eg Eh Ei Ej Ek El Em En Eo Ep Eq Er Es Et:Value} (l:List Pu) (oa:Option Addr) (ca N gs:Nat) (w:World) (hN:N≤w.heap.size) (hgs:gs<w.heap.size) (hkp:w.cell? ⟨gs,9,none⟩=some (.slice oa l.length ca)) (hv:Hid (QB PuR 3 w N (.slice oa l.length ca) l)) (hl:l.length<2305843009213693952) (Q:Exit→Act→World→Prop)
  (hGo:Hid (∀ (u2 Cx Cy Cz CA CB CC CD CE CF CG CH CI CJ CK CL CM CN CO CP CQ CR CS CT CU CV CW CX CY CZ D0 D1 D2 D3 D4 D5 D6 D7 D8 D9 Da Db Dc Dd De Df Dg Dh Di Dj Dk Dl Dm Dn Do Dp Dq Dr Ds Dt Du Dv:Value) (w':World),Below w.heap.size w w'→QE l=0→Q .normal ⟨#[s0,.pointer (some ⟨gs,0,none⟩),u2,s3,s4,s5,s6,s7,s8,s9,A0,Ab,Am,Ax,AI,Cx,Cy,Cz,Bd,Be,Bf,Bg,Bh,Bi,Bj,Bk,Bl,Bm,Bn,Bo,Bp,Bq,Br,Bs,Bt,Bu,Bv,Bw,Bx,By,Bz,BA,BB,BC,BD,BE,BF,BG,BH,BI,BJ,BK,BL,BM,BN,BO,BP,BQ,BR,BS,BT,BU,BV,BW,BX,BY,BZ,C0,C1,C2,C3,C4,C5,C6,C7,C8,C9,Ca,Cb,Cc,Cd,Ce,Cf,Cg,Ch,Ci,Cj,Ck,Cl,Cm,Cn,Co,Cp,Cq,Cr,Cs,Ct,Cu,Cv,Cw,A1,A2,A3,A4,A5,A6,A7,A8,A9,Aa,Ac,Ad,Ae,Af,Ag,Ah,Ai,Aj,Ak,Al,An,Ao,Ap,Aq,Ar,As,At,Au,Av,Aw,Ay,Az,AA,AB,AC,AD,AE,AF,AG,AH,AJ,AK,AL,AM,AN,AO,AP,AQ,AR,AS,AT,AU,AV,AW,AX,AY,AZ,B0,B1,B2,B3,B4,B5,B6,B7,B8,B9,Ba,Bb,Bc,.slice oa l.length ca,.int .i64 (l.length:Int),CA,CB,CC,CD,CE,CF,CG,CH,CI,CJ,CK,CL,CM,CN,CO,CP,CQ,CR,CS,CT,CU,CV,CW,CX,CY,CZ,D0,D1,D2,D3,D4,D5,D6,D7,D8,D9,Da,Db,Dc,Dd,De,Df,Dg,Dh,Di,Dj,Dk,Dl,Dm,Dn,Do,Dp,Dq,Dr,Ds,Dt,Du,Dv],[]⟩ w'))
  (hRet:Hid (∀ (Cx Cy Cz CA CB CC CD CE CF CG CH CI CJ CK CL CM CN CO CP CQ CR CS CT CU CV CW CX CY CZ D0 D1 D2 D3 D4 D5 D6 D7 D8 D9 Da Db Dc Dd De Df Dg Dh Di Dj Dk Dl Dm Dn Do Dp Dq Dr Ds Dt Du Dv:Value) (w':World),Below w.heap.size w w'→QE l≠0→Q .ret ⟨#[s0,.pointer (some ⟨gs,0,none⟩),.int .i64 (QE l),s3,s4,s5,s6,s7,s8,s9,A0,Ab,Am,Ax,AI,Cx,Cy,Cz,Bd,Be,Bf,Bg,Bh,Bi,Bj,Bk,Bl,Bm,Bn,Bo,Bp,Bq,Br,Bs,Bt,Bu,Bv,Bw,Bx,By,Bz,BA,BB,BC,BD,BE,BF,BG,BH,BI,BJ,BK,BL,BM,BN,BO,BP,BQ,BR,BS,BT,BU,BV,BW,BX,BY,BZ,C0,C1,C2,C3,C4,C5,C6,C7,C8,C9,Ca,Cb,Cc,Cd,Ce,Cf,Cg,Ch,Ci,Cj,Ck,Cl,Cm,Cn,Co,Cp,Cq,Cr,Cs,Ct,Cu,Cv,Cw,A1,A2,A3,A4,A5,A6,A7,A8,A9,Aa,Ac,Ad,Ae,Af,Ag,Ah,Ai,Aj,Ak,Al,An,Ao,Ap,Aq,Ar,As,At,Au,Av,Aw,Ay,Az,AA,AB,AC,AD,AE,AF,AG,AH,AJ,AK,AL,AM,AN,AO,AP,AQ,AR,AS,AT,AU,AV,AW,AX,AY,AZ,B0,B1,B2,B3,B4,B5,B6,B7,B8,B9,Ba,Bb,Bc,.slice oa l.length ca,.int .i64 (l.length:Int),CA,CB,CC,CD,CE,CF,CG,CH,CI,CJ,CK,CL,CM,CN,CO,CP,CQ,CR,CS,CT,CU,CV,CW,CX,CY,CZ,D0,D1,D2,D3,D4,D5,D6,D7,D8,D9,Da,Db,Dc,Dd,De,Df,Dg,Dh,Di,Dj,Dk,Dl,Dm,Dn,Do,Dp,Dq,Dr,Ds,Dt,Du,Dv],[]⟩ w')) :
  Code.wp Tryz.prog ((Tryz.f24.body.bind (inBlock 10)).getD .skip) (Exit.inBlock 10 Q) ⟨#[s0,.pointer (some ⟨gs,0,none⟩),s2,s3,s4,s5,s6,s7,s8,s9,A0,Ab,Am,Ax,AI,Dw,Dx,Dy,Bd,Be,Bf,Bg,Bh,Bi,Bj,Bk,Bl,Bm,Bn,Bo,Bp,Bq,Br,Bs,Bt,Bu,Bv,Bw,Bx,By,Bz,BA,BB,BC,BD,BE,BF,BG,BH,BI,BJ,BK,BL,BM,BN,BO,BP,BQ,BR,BS,BT,BU,BV,BW,BX,BY,BZ,C0,C1,C2,C3,C4,C5,C6,C7,C8,C9,Ca,Cb,Cc,Cd,Ce,Cf,Cg,Ch,Ci,Cj,Ck,Cl,Cm,Cn,Co,Cp,Cq,Cr,Cs,Ct,Cu,Cv,Cw,A1,A2,A3,A4,A5,A6,A7,A8,A9,Aa,Ac,Ad,Ae,Af,Ag,Ah,Ai,Aj,Ak,Al,An,Ao,Ap,Aq,Ar,As,At,Au,Av,Aw,Ay,Az,AA,AB,AC,AD,AE,AF,AG,AH,AJ,AK,AL,AM,AN,AO,AP,AQ,AR,AS,AT,AU,AV,AW,AX,AY,AZ,B0,B1,B2,B3,B4,B5,B6,B7,B8,B9,Ba,Bb,Bc,.slice oa l.length ca,.int .i64 (l.length:Int),.int .i64 0,Dz,DA,DB,DC,DD,DE,DF,DG,DH,DI,DJ,DK,DL,DM,DN,DO,DP,DQ,DR,DS,DT,DU,DV,DW,DX,DY,DZ,E0,E1,E2,E3,E4,E5,E6,E7,E8,E9,Ea,Eb,Ec,Ed,Ee,Ef,Eg,Eh,Ei,Ej,Ek,El,Em,En,Eo,Ep,Eq,Er,Es,Et],[]⟩ w:=by
 conv=>arg 2;whnf
 conv=>arg 4;dsimp only
 generalize hn:l.length=n at *
 have HN:=hid hn
 clear hn
 go_loopw [172] (fun i wr=>∃ k:Nat,k≤n∧i=.int .i64 (k:Int)∧Hid (Below w.heap.size w wr∧QE l=YG QA Ja (Y8 l k) (l.drop k))) (fun i _=>n-(intOf i).toNat)
 case atStart=>exact ⟨0,by omega,rfl,hid ⟨Below.refl _ _,rfl⟩⟩
 case round =>
  obtain ⟨k,hk,rfl,HT⟩:=hrel
  have HBW:=hid HT.out.1
  have HUP:=hid HT.out.2
  clear HT
  have hszw:=HBW.out.size
  by_cases hlt:k<n
  ·obtain ⟨x,hx⟩:∃ x,l[k]?=some x:=⟨l[k]'(by rw [HN.out];exact hlt),List.getElem?_eq_getElem _⟩
   have hlt':(k:Int)<(n:Int):=by omega
   obtain ⟨b,o,rfl,hcells⟩:=hv.out.spot (by omega)
   obtain ⟨hbN,r,hr,hc⟩:=hcells k x hx
   obtain rfl:=hr
   have hbl:b<w.heap.size:=by omega
   have f0:=cgo (hc 0 _ rfl) HBW hbl
   have f1:=cgo (hc 1 _ rfl) HBW hbl
   have f2:=cgo (hc 2 _ rfl) HBW hbl
   simp only [Nat.add_zero] at f0
   obtain ⟨w2,hw2⟩:∃ w2,wr.alloc (.cells #[.string x.owner,.string x.denom,.int .u64 (x.amount:Int)] 75)=w2:=⟨_,rfl⟩
   have hbr2:=bof hw2
   have HB2:=hid (HBW.out.trans (hbr2.mono hszw))
   have hrow2:Row w2 wr.heap.size 75 [.string x.owner,.string x.denom,.int .u64 (x.amount:Int)]:=by rw [← hw2];exact Row.new _ _ _
   have q0:w2.cell? ⟨wr.heap.size,0,none⟩=some (.string x.owner):=hrow2.cell 0
   have q1:w2.cell? ⟨wr.heap.size,1,none⟩=some (.string x.denom):=hrow2.cell 1
   have q2:w2.cell? ⟨wr.heap.size,2,none⟩=some (.int .u64 (x.amount:Int)):=hrow2.cell 2
   have HR2:=hid hrow2
   have kp:w2.cell? ⟨gs,9,none⟩=some (.slice (some ⟨b,o,none⟩) n ca):=(HB2.out.cell (p:=⟨gs,9,none⟩) hgs).trans hkp
   have HST:=hid (Qg1 QA Ja (Y8 l k) l k x hx)
   have HW2:=hid hw2
   have HCS:=hid hcells
   clear hbr2 hrow2 hw2 hcells hc hx hkp
   by_cases a0:x.owner.size=0
   ·have ea0:((x.owner.size:Int) == 0)=true:=by first | (rw [a0];rfl) | (simp;omega)
    have HV2:=hid (show QE l=4 by rw [HUP.out,HST.out,Qa2 (by omega)];rfl)
    clear a0
    go_upto_region 44 with fail
    rw [HW2.out]
    go_wp2
    rw [← HV2.out]
    apply hRet.out
    ·exact HB2.out
    ·rw [HV2.out];decide
   ·have ea0:((x.owner.size:Int) == 0)=false:=by first | (rw [beq_eq_false_iff_ne];omega) | (simp;omega)
    by_cases a1:40<x.owner.size
    ·have ea1:decide (40<(x.owner.size:Int))=true:=by first | (rw [a1];rfl) | (simp;omega)
     have HV2:=hid (show QE l=4 by rw [HUP.out,HST.out,Qa2 (by omega)];rfl)
     clear a0 a1
     go_upto_region 44 with fail
     rw [HW2.out]
     go_wp2
     rw [← HV2.out]
     apply hRet.out
     ·exact HB2.out
     ·rw [HV2.out];decide
    ·have ea1:decide (40<(x.owner.size:Int))=false:=by first | (rw [beq_eq_false_iff_ne];omega) | (simp;omega)
     by_cases a2:x.denom.size=0
     ·have ea2:((x.denom.size:Int) == 0)=true:=by first | (rw [a2];rfl) | (simp;omega)
      have HV2:=hid (show QE l=4 by rw [HUP.out,HST.out,Qa2 (by omega)];rfl)
      clear a0 a1 a2
      go_upto_region 44 with fail
      rw [HW2.out]
      go_wp2
      rw [← HV2.out]
      apply hRet.out
      ·exact HB2.out
      ·rw [HV2.out];decide
     ·have ea2:((x.denom.size:Int) == 0)=false:=by first | (rw [beq_eq_false_iff_ne];omega) | (simp;omega)
      by_cases a3:40<x.denom.size
      ·have ea3:decide (40<(x.denom.size:Int))=true:=by first | (rw [a3];rfl) | (simp;omega)
       have HV2:=hid (show QE l=4 by rw [HUP.out,HST.out,Qa2 (by omega)];rfl)
       clear a0 a1 a2 a3
       go_upto_region 44 with fail
       rw [HW2.out]
       go_wp2
       rw [← HV2.out]
       apply hRet.out
       ·exact HB2.out
       ·rw [HV2.out];decide
      ·have ea3:decide (40<(x.denom.size:Int))=false:=by first | (rw [beq_eq_false_iff_ne];omega) | (simp;omega)
       by_cases am:x.amount=0
       ·have eam:((x.amount:Int) == 0)=true:=by rw [am];rfl
        have HV2:=hid (show QE l=3 by rw [HUP.out,HST.out,Qh0 (by omega) am];rfl)
        clear a0 a1 a2 a3 am
        go_upto_region 44 with fail
        rw [HW2.out]
        go_wp2
        rw [← HV2.out]
        apply hRet.out
        ·exact HB2.out
        ·rw [HV2.out];decide
       ·have eam:((x.amount:Int) == 0)=false:=by rw [beq_eq_false_iff_ne];omega
        have HM:=hid (show QA x=0 from QhZ (by omega) am)
        clear a0 a1 a2 a3 am
        by_cases hk0:k=0
        ·have hj0:decide (0<k)=false:=by simp <;> omega
         have HV2:=hid (show QE l=YG QA Ja (Y8 l (k+1)) (l.drop (k+1)) by rw [HUP.out,HST.out,HM.out,hk0];rfl)
         clear hk0
         go_upto_region 44 with fail
         rw [HW2.out]
         go_wp2
         go_roundw
         case rel=>exact ⟨k+1,by omega,by go_num,hid ⟨HB2.out,HV2.out⟩⟩
         case measure=>simp [intOf];omega
        ·obtain ⟨j,hjk⟩:∃ j,k=j+1:=⟨k-1,by omega⟩
         obtain ⟨y,hy⟩:∃ y,l[j]?=some y:=⟨l[j]'(by rw [HN.out];omega),List.getElem?_eq_getElem _⟩
         obtain ⟨_,r,hr,hc⟩:=HCS.out j y hy
         obtain rfl:=hr
         have p0:=cgo (hc 0 _ rfl) HB2 hbl
         have p1:=cgo (hc 1 _ rfl) HB2 hbl
         have p2:=cgo (hc 2 _ rfl) HB2 hbl
         simp only [Nat.add_zero] at p0
         have hj1:IntKind.i64.wrap ((k:Int)-1)=(j:Int):=by rw [IntKind.wrap_i64];omega
         have hj0:decide (0<k)=true:=by simp <;> omega
         have hjn:j<n:=by omega
         have hjn':(j:Int)<(n:Int):=by omega
         have HA:=hid (show J9 Ja (Y8 l k) x=Ja y x by rw [hjk,show Y8 l (j+1)=some y from hy];rfl)
         obtain ⟨w3,hw3⟩:∃ w3,w2.alloc (.cells #[.string y.owner,.string y.denom,.int .u64 (y.amount:Int)] 75)=w3:=⟨_,rfl⟩
         have hb3:=bof hw3
         have HB3:=hgo HB2 hb3
         have hrow3:Row w3 w2.heap.size 75 [.string y.owner,.string y.denom,.int .u64 (y.amount:Int)]:=by rw [← hw3];exact Row.new _ _ _
         have hrx:=HR2.out.below hb3 HR2.out.lt
         have d0:w3.cell? ⟨w2.heap.size,0,none⟩=some (.string y.owner):=hrow3.cell 0
         have d1:w3.cell? ⟨w2.heap.size,1,none⟩=some (.string y.denom):=hrow3.cell 1
         have x0:w3.cell? ⟨wr.heap.size,0,none⟩=some (.string x.owner):=hrx.cell 0
         have x1:w3.cell? ⟨wr.heap.size,1,none⟩=some (.string x.denom):=hrx.cell 1
         have HW3:=hid hw3
         clear hc hy hk0 hjk hw3 hb3 hrow3 hrx
         cases g1:Op.bytesLess y.owner.toList x.owner.toList with
         | true =>
          have HL:=hid (show Ja y x=true by unfold Ja QcX;rw [g1];rfl)
          cases g2:(y.owner.toList == x.owner.toList) with
          | true =>
           exact absurd g1 (by rw [beq_iff_eq.1 g2,ZX];decide)
          | false =>
           have HV2:=hid (show QE l=YG QA Ja (Y8 l (k+1)) (l.drop (k+1)) by rw [HUP.out,HST.out,HM.out,HA.out,HL.out];rfl)
           go_upto_region 44 with fail
           rw [HW2.out]
           go_upto_region 50 with fail
           rw [HW3.out]
           go_wp2
           go_roundw
           case rel=>exact ⟨k+1,by omega,by go_num,hid ⟨HB3.out,HV2.out⟩⟩
           case measure=>simp [intOf];omega
         | false =>
          cases g2:(y.owner.toList == x.owner.toList) with
          | true =>
           cases g3:Op.bytesLess y.denom.toList x.denom.toList with
           | true =>
            have HL:=hid (show Ja y x=true by unfold Ja QcX;rw [g1,g3,Qc2 g2];rfl)
            have HV2:=hid (show QE l=YG QA Ja (Y8 l (k+1)) (l.drop (k+1)) by rw [HUP.out,HST.out,HM.out,HA.out,HL.out];rfl)
            go_upto_region 44 with fail
            rw [HW2.out]
            go_upto_region 50 with fail
            rw [HW3.out]
            go_wp2
            go_roundw
            case rel=>exact ⟨k+1,by omega,by go_num,hid ⟨HB3.out,HV2.out⟩⟩
            case measure=>simp [intOf];omega
           | false =>
            have HL:=hid (show Ja y x=false by unfold Ja QcX;rw [g1,g3,Qc2 g2];rfl)
            have HV2:=hid (show QE l=2 by rw [HUP.out,HST.out,HM.out,HA.out,HL.out];rfl)
            go_upto_region 44 with fail
            rw [HW2.out]
            go_upto_region 50 with fail
            rw [HW3.out]
            go_wp2
            rw [← HV2.out]
            apply hRet.out
            ·exact HB3.out
            ·rw [HV2.out];decide
          | false =>
           have HL:=hid (show Ja y x=false by unfold Ja QcX;rw [g1,Qfi g2];rfl)
           have HV2:=hid (show QE l=2 by rw [HUP.out,HST.out,HM.out,HA.out,HL.out];rfl)
           go_upto_region 44 with fail
           rw [HW2.out]
           go_upto_region 50 with fail
           rw [HW3.out]
           go_wp2
           rw [← HV2.out]
           apply hRet.out
           ·exact HB3.out
           ·rw [HV2.out];decide
  ·have hge:decide ((k:Int)<(n:Int))=false:=by simp;omega
   have HE:=hid (show QE l=0 by rw [HUP.out,List.drop_eq_nil_of_le (by rw [HN.out];omega)];rfl)
   go_wp2
   apply hGo.out
   ·exact HBW.out
   ·exact HE.out
theorem Qb5 (a b c:List Mk) (r:List Int):orN (Qp a :: Qp b :: Qp c :: r)=if Qf Qp [a,b,c]≠0 then Qf Qp [a,b,c] else orN r:=by
 simp only [orN,Qf]
 by_cases h1:Qp a=0 <;> by_cases h2:Qp b=0 <;> by_cases h3:Qp c=0 <;> simp [h1,h2,h3]
def QdZ (s:St):List (Int×Int):=[((s.clients.length:Int),4),((s.conns.length:Int),8),((s.chans.length:Int),8),((s.sent.length:Int),50),((s.got.length:Int),50),((s.acks.length:Int),50),((s.purses.length:Int),60)]
theorem QhF {s:St} (h:∃ p∈QdZ s,p.2<p.1):Qcg s=true:=by
 simp only [QdZ,List.mem_cons,List.not_mem_nil,or_false] at h
 obtain ⟨p,hp,hlt⟩:=h
 refine decide_eq_true ?_
 rcases hp with rfl | rfl | rfl | rfl | rfl | rfl | rfl <;> simp only at hlt <;> omega
theorem Qiw {s:St} (h:∀ p∈QdZ s,¬ p.2<p.1):Qcg s=false:=by
 simp only [QdZ,List.mem_cons,List.not_mem_nil,or_false,forall_eq_or_imp,forall_eq] at h
 obtain ⟨h1,h2,h3,h4,h5,h6,h7⟩:=h
 exact decide_eq_false (by omega)
theorem Qem {s:St} (h:Qf Qg s.clients≠0):Ym s=Qf Qg s.clients:=by unfold Ym;rw [orN,if_pos h]
theorem QfY {s:St} (h1:Qf Qg s.clients=0) (h:Qf Qo s.conns≠0):Ym s=Qf Qo s.conns:=by unfold Ym;rw [orN,if_neg (by simp [h1]),orN,if_pos h]
theorem QfX {s:St} (h1:Qf Qg s.clients=0) (h2:Qf Qo s.conns=0) (h:Qf Qm s.chans≠0):Ym s=Qf Qm s.chans:=by unfold Ym;rw [orN,if_neg (by simp [h1]),orN,if_neg (by simp [h2]),orN,if_pos h]
theorem QbY {s:St} (h1:Qf Qg s.clients=0) (h2:Qf Qo s.conns=0) (h3:Qf Qm s.chans=0):Ym s=orN [Qp s.sent,Qp s.got,Qp s.acks,QE s.purses]:=by unfold Ym;rw [orN,if_neg (by simp [h1]),orN,if_neg (by simp [h2]),orN,if_neg (by simp [h3])]
theorem QgW (n:Int):orN [n]=n:=by
 by_cases h:n=0 <;> simp [orN,h]
theorem Yo:QeI 24:=by
 intro s v N w hv hN hfit
 obtain ⟨o1,c1,o2,c2,o3,c3,o4,c4,o5,c5,o6,c6,o7,c7,rfl,hm⟩:=hv.open
 have HM:=hid hm
 obtain ⟨hfn,⟨hf1,hf1'⟩,hf2,hf3,⟨hf4,_⟩,⟨hf5,_⟩,⟨hf6,_⟩,hf7,_⟩:=hfit
 have HF1:=hid hf1'
 clear hv hm hf1'
 obtain ⟨w0,hw0⟩:∃ w0,w.alloc (.cells #[.string s.name,.int .i64 s.height,.int .i64 s.time,.slice o1 s.clients.length c1,.slice o2 s.conns.length c2,.slice o3 s.chans.length c3,.slice o4 s.sent.length c4,.slice o5 s.got.length c5,.slice o6 s.acks.length c6,.slice o7 s.purses.length c7] 28)=w0:=⟨_,rfl⟩
 have HB0:=hid (show Below w.heap.size w w0 by rw [← hw0];exact (Below.refl _ _).alloc (Nat.le_refl _) _)
 have HR0:=hid (QaL hw0)
 have k0:w0.cell? ⟨w.heap.size,0,none⟩=some (.string s.name):=HR0.out.cell 0
 have HW0:=hid hw0
 have HNM:=hid (JT s.name w0 hfn)
 have HDN:=hid (show Qk s=if JI s.name=false then 7 else if (Qn 0 s.height && Qn 0 s.time)=false then 3 else if Qcg s=true then 5 else Ym s from rfl)
 clear hw0
 go_enter Tryz.func24,Tryz.ntmps24
 go_upto_region 1 with fail
 rw [HW0.out]
 go_wp2_with fail
 refine HNM.out.mono ?_
 rintro e w1 ⟨rfl,hb1⟩
 have HB1:=hgo HB0 hb1
 have HR1:=rgo HR0 hb1
 clear hb1 k0
 cases hn:JI s.name with
 | false =>
  have HW:=hid (show Qk s=7 by rw [HDN.out,hn];rfl)
  clear hn
  go_wp2
  go_ret
  exact ⟨by rw [HW.out];first | done | rfl,HB1.out⟩
 | true =>
  have HNN:=hid hn
  clear hn
  have k1:w1.cell? ⟨w.heap.size,1,none⟩=some (.int .i64 s.height):=HR1.out.cell 1
  have k2:w1.cell? ⟨w.heap.size,2,none⟩=some (.int .i64 s.time):=HR1.out.cell 2
  obtain ⟨w2,hw2⟩:∃ w2,w1.alloc (.cells #[.int .i64 s.height,.int .i64 s.time] 3)=w2:=⟨_,rfl⟩
  have hb2:=bof hw2
  have HB2:=hgo HB1 hb2
  have HR2:=rgo HR1 hb2
  have HFR:=hid (Q0 0 [s.height,s.time] w1.heap.size 2 w2 (by rw [← hw2];exact Row.new _ _ _) rfl (by decide))
  simp only [List.all_cons,List.all_nil,Bool.and_true] at HFR
  have HW2:=hid hw2
  clear hb2 hw2
  go_wp2_with fail
  rw [HW2.out]
  refine HFR.out.mono ?_
  rintro e w2' ⟨rfl,h2'⟩
  rw [h2']
  clear h2' w2' k1 k2
  cases hq:(Qn 0 s.height && Qn 0 s.time) with
  | false =>
   have HW:=hid (show Qk s=3 by rw [HDN.out,HNN.out,hq];rfl)
   clear hq
   go_wp2
   go_ret
   exact ⟨by rw [HW.out];first | done | rfl,HB2.out⟩
  | true =>
   have HQ:=hid hq
   clear hq
   have k3:w2.cell? ⟨w.heap.size,3,none⟩=some (.slice o1 s.clients.length c1):=HR2.out.cell 3
   have k4:w2.cell? ⟨w.heap.size,4,none⟩=some (.slice o2 s.conns.length c2):=HR2.out.cell 4
   have k5:w2.cell? ⟨w.heap.size,5,none⟩=some (.slice o3 s.chans.length c3):=HR2.out.cell 5
   have k6:w2.cell? ⟨w.heap.size,6,none⟩=some (.slice o4 s.sent.length c4):=HR2.out.cell 6
   have k7:w2.cell? ⟨w.heap.size,7,none⟩=some (.slice o5 s.got.length c5):=HR2.out.cell 7
   have k8:w2.cell? ⟨w.heap.size,8,none⟩=some (.slice o6 s.acks.length c6):=HR2.out.cell 8
   have k9:w2.cell? ⟨w.heap.size,9,none⟩=some (.slice o7 s.purses.length c7):=HR2.out.cell 9
   obtain ⟨w3,hw3⟩:∃ w3,w2.alloc (.cells #[.int .i64 (s.clients.length:Int),.int .i64 4,.int .i64 (s.conns.length:Int),.int .i64 8,.int .i64 (s.chans.length:Int),.int .i64 8,.int .i64 (s.sent.length:Int),.int .i64 50,.int .i64 (s.got.length:Int),.int .i64 50,.int .i64 (s.acks.length:Int),.int .i64 50,.int .i64 (s.purses.length:Int),.int .i64 60] 101)=w3:=⟨_,rfl⟩
   have hb3:=bof hw3
   have HB3:=hgo HB2 hb3
   have HR3:=rgo HR2 hb3
   have hr3:Row w3 w2.heap.size 101 [.int .i64 (s.clients.length:Int),.int .i64 4,.int .i64 (s.conns.length:Int),.int .i64 8,.int .i64 (s.chans.length:Int),.int .i64 8,.int .i64 (s.sent.length:Int),.int .i64 50,.int .i64 (s.got.length:Int),.int .i64 50,.int .i64 (s.acks.length:Int),.int .i64 50,.int .i64 (s.purses.length:Int),.int .i64 60]:=by rw [← hw3];exact Row.new _ _ _
   have hg3:=hr3.lt
   have HC3:=hid (show ∀ k p,(QdZ s)[k]?=some p→w3.cell? ⟨w2.heap.size,k*2,none⟩=some (.int .i64 p.1)∧w3.cell? ⟨w2.heap.size,k*2+1,none⟩=some (.int .i64 p.2) from fun k p hp =>
    match k,hp with
    | 0,hp=>by cases hp;exact ⟨hr3.cell 0,hr3.cell 1⟩
    | 1,hp=>by cases hp;exact ⟨hr3.cell 2,hr3.cell 3⟩
    | 2,hp=>by cases hp;exact ⟨hr3.cell 4,hr3.cell 5⟩
    | 3,hp=>by cases hp;exact ⟨hr3.cell 6,hr3.cell 7⟩
    | 4,hp=>by cases hp;exact ⟨hr3.cell 8,hr3.cell 9⟩
    | 5,hp=>by cases hp;exact ⟨hr3.cell 10,hr3.cell 11⟩
    | 6,hp=>by cases hp;exact ⟨hr3.cell 12,hr3.cell 13⟩
    | _+7,hp=>by cases hp)
   have HW3:=hid hw3
   clear hb3 hr3 hw3
   go_wp2_with fail
   rw [HW3.out]
   clear k3 k4 k5 k6 k7 k8 k9
   refine QeF (QdZ s) w2.heap.size w3 hg3 (hid rfl) HC3 _ (hid ?_) (hid ?_)
   rotate_left
   ·intro u4 u59 u60 u61 u62 u63 u64 u65 u66 u67 u68 w4 hb4 hbad
    have HW:=hid (show Qk s=5 by rw [HDN.out,HNN.out,HQ.out,QhF hbad];rfl)
    have HB4:=hgo HB3 hb4
    clear hb4 hbad
    go_ret
    exact ⟨by rw [HW.out];first | done | rfl,HB4.out⟩
   intro u2 u4 u59 u60 u61 u62 u63 u64 u65 u66 u67 u68 w4 hb4 hok
   have HD:=hid (show Qk s=Ym s by rw [HDN.out,HNN.out,HQ.out,Qiw hok];rfl)
   have HB4:=hgo HB3 hb4
   have HR4:=rgo HR3 hb4
   clear hb4 hok HDN HC3 hg3
   have k3:w4.cell? ⟨w.heap.size,3,none⟩=some (.slice o1 s.clients.length c1):=HR4.out.cell 3
   go_wp2_with fail
   refine QgE s.clients o1 c1 N w4 (Nat.le_trans hN HB4.out.size) (hid (HM.out.below (HB4.out.mono hN)).clients) hf1 HF1 _ (hid ?_) (hid ?_)
   rotate_left
   ·intro u6 u7 u72 u73 u74 u75 u76 u77 u78 u79 u80 u81 w5 hb5 hbad
    have HB5:=hgo HB4 hb5
    have HW:=hid (HD.out.trans (Qem hbad))
    clear hb5 hbad
    go_ret
    exact ⟨by rw [HW.out];first | done | rfl,HB5.out⟩
   intro u2 u6 u7 u72 u73 u74 u75 u76 u77 u78 u79 u80 u81 w5 hb5 e5
   have E5:=hid e5
   have HB5:=hgo HB4 hb5
   have HR5:=rgo HR4 hb5
   clear hb5 e5
   clear k3
   have k4:w5.cell? ⟨w.heap.size,4,none⟩=some (.slice o2 s.conns.length c2):=HR5.out.cell 4
   go_wp2_with fail
   refine QgF s.conns o2 c2 N w5 (Nat.le_trans hN HB5.out.size) (hid (HM.out.below (HB5.out.mono hN)).conns) hf2 _ (hid ?_) (hid ?_)
   rotate_left
   ·intro u9 u85 u86 u87 u88 u89 u90 u91 u92 u93 u94 u95 u96 u97 u98 u99 u100 u101 u102 u103 u104 u105 u106 u107 u108 u109 u110 u111 w6 hb6 hbad
    have HB6:=hgo HB5 hb6
    have HW:=hid (HD.out.trans (QfY E5.out hbad))
    clear hb6 hbad
    go_ret
    exact ⟨by rw [HW.out];first | done | rfl,HB6.out⟩
   intro u2 u9 u85 u86 u87 u88 u89 u90 u91 u92 u93 u94 u95 u96 u97 u98 u99 u100 u101 u102 u103 u104 u105 u106 u107 u108 u109 u110 u111 w6 hb6 e6
   have E6:=hid e6
   have HB6:=hgo HB5 hb6
   have HR6:=rgo HR5 hb6
   clear hb6 e6
   clear k4
   have k5:w6.cell? ⟨w.heap.size,5,none⟩=some (.slice o3 s.chans.length c3):=HR6.out.cell 5
   go_wp2_with fail
   refine QgD s.chans o3 c3 N w6 (Nat.le_trans hN HB6.out.size) (hid (HM.out.below (HB6.out.mono hN)).chans) hf3 _ (hid ?_) (hid ?_)
   rotate_left
   ·intro u11 u115 u116 u117 u118 u119 u120 u121 u122 u123 u124 u125 u126 u127 u128 u129 u130 u131 u132 u133 u134 u135 u136 u137 u138 u139 u140 u141 u142 u143 u144 u145 u146 u147 u148 u149 u150 w7 hb7 hbad
    have HB7:=hgo HB6 hb7
    have HW:=hid (HD.out.trans (QfX E5.out E6.out hbad))
    clear hb7 hbad
    go_ret
    exact ⟨by rw [HW.out];first | done | rfl,HB7.out⟩
   intro u2 u11 u115 u116 u117 u118 u119 u120 u121 u122 u123 u124 u125 u126 u127 u128 u129 u130 u131 u132 u133 u134 u135 u136 u137 u138 u139 u140 u141 u142 u143 u144 u145 u146 u147 u148 u149 u150 w7 hb7 e7
   have E7:=hid e7
   have HB7:=hgo HB6 hb7
   have HR7:=rgo HR6 hb7
   clear hb7 e7
   clear k5
   have k6:w7.cell? ⟨w.heap.size,6,none⟩=some (.slice o4 s.sent.length c4):=HR7.out.cell 6
   have k7:w7.cell? ⟨w.heap.size,7,none⟩=some (.slice o5 s.got.length c5):=HR7.out.cell 7
   have k8:w7.cell? ⟨w.heap.size,8,none⟩=some (.slice o6 s.acks.length c6):=HR7.out.cell 8
   obtain ⟨w8,hw8⟩:∃ w8,w7.alloc (.cells #[.slice o4 s.sent.length c4,.slice o5 s.got.length c5,.slice o6 s.acks.length c6] 25)=w8:=⟨_,rfl⟩
   have hb8:=bof hw8
   have HB8:=hgo HB7 hb8
   have HR8:=rgo HR7 hb8
   have hr8:Row w8 w7.heap.size 25 [.slice o4 s.sent.length c4,.slice o5 s.got.length c5,.slice o6 s.acks.length c6]:=by rw [← hw8];exact Row.new _ _ _
   have hg8:=hr8.lt
   have HM8:=hid (HM.out.below (HB8.out.mono hN))
   have HC8:=hid (show ∀ k x,[s.sent,s.got,s.acks][k]?=some x→∃ o c,w8.cell? ⟨w7.heap.size,k,none⟩=some (.slice o x.length c)∧QB MkR 3 w8 N (.slice o x.length c) x∧x.length<2305843009213693952 from fun k x hx =>
    match k,hx with
    | 0,hx=>by cases hx;exact ⟨_,_,hr8.cell 0,HM8.out.sent,hf4⟩
    | 1,hx=>by cases hx;exact ⟨_,_,hr8.cell 1,HM8.out.got,hf5⟩
    | 2,hx=>by cases hx;exact ⟨_,_,hr8.cell 2,HM8.out.acks,hf6⟩
    | _+3,hx=>by cases hx)
   have HW8:=hid hw8
   clear hb8 hw8 hr8
   go_wp2_with fail
   rw [HW8.out]
   refine QgG [s.sent,s.got,s.acks] w7.heap.size N w8 (Nat.le_trans hN HB8.out.size) hg8 (hid rfl) HC8 _ (hid ?_) (hid ?_)
   rotate_left
   ·intro u13 u14 u159 u160 u161 u162 u163 u164 u165 u166 u167 u168 w9 hb9 hbad
    have HB9:=hgo HB8 hb9
    have HW:=hid (HD.out.trans (show Ym s=Qf Qp [s.sent,s.got,s.acks] by rw [QbY E5.out E6.out E7.out,Qb5,if_pos hbad]))
    clear hb9 hbad
    go_ret
    exact ⟨by rw [HW.out];first | done | rfl,HB9.out⟩
   intro u2 u13 u14 u159 u160 u161 u162 u163 u164 u165 u166 u167 u168 w9 hb9 e9
   have E9:=hid e9
   have HB9:=hgo HB8 hb9
   have HR9:=rgo HR8 hb9
   clear hb9 e9
   clear k6 k7 k8
   have k9:w9.cell? ⟨w.heap.size,9,none⟩=some (.slice o7 s.purses.length c7):=HR9.out.cell 9
   go_wp2_with fail
   refine QgH s.purses o7 c7 N w.heap.size w9 (Nat.le_trans hN HB9.out.size) HR9.out.lt k9 (hid (HM.out.below (HB9.out.mono hN)).purses) hf7 _ (hid ?_) (hid ?_)
   rotate_left
   ·intro u15 u16 u17 u172 u173 u174 u175 u176 u177 u178 u179 u180 u181 u182 u183 u184 u185 u186 u187 u188 u189 u190 u191 u192 u193 u194 u195 u196 u197 u198 u199 u200 u201 u202 u203 u204 u205 u206 u207 u208 u209 u210 u211 u212 u213 u214 u215 u216 u217 u218 u219 u220 u221 u222 u223 u224 u225 u226 u227 u228 u229 w10 hb10 hbad
    have HB10:=hgo HB9 hb10
    have HW:=hid (show Qk s=QE s.purses by rw [HD.out,QbY E5.out E6.out E7.out,Qb5,if_neg (by simp [E9.out]),QgW])
    clear hb10 hbad
    go_ret
    exact ⟨by rw [HW.out];first | done | rfl,HB10.out⟩
   intro u2 u15 u16 u17 u172 u173 u174 u175 u176 u177 u178 u179 u180 u181 u182 u183 u184 u185 u186 u187 u188 u189 u190 u191 u192 u193 u194 u195 u196 u197 u198 u199 u200 u201 u202 u203 u204 u205 u206 u207 u208 u209 u210 u211 u212 u213 u214 u215 u216 u217 u218 u219 u220 u221 u222 u223 u224 u225 u226 u227 u228 u229 w10 hb10 e10
   have HB10:=hgo HB9 hb10
   have HW:=hid (show Qk s=0 by rw [HD.out,QbY E5.out E6.out E7.out,Qb5,if_neg (by simp [E9.out]),QgW];exact e10)
   clear hb10 e10
   go_wp2
   go_ret
   exact ⟨by rw [HW.out];first | done | rfl,HB10.out⟩
end Go.Proofs.YtbgdpfeobklnhaaGreatDoor
