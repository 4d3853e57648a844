/-
  ChansTell: its steps, one by one.
-/
import Derived.Test.YtbgdpfeobklnhaaGreatDoorcvRegions
import Derived.Test.YtbgdpfeobklnhaaGreatDoorcvFrKit
import Derived.Test.YtbgdpfeobklnhaaGreatDoorcvSt9RKit
import Derived.Test.YtbgdpfeobklnhaaGreatDoorcvStSameF
import Derived.Test.YtbgdpfeobklnhaaGreatDoorcvChAdd
namespace Go.Proofs.YtbgdpfeobklnhaaGreatDoor
set_option maxRecDepth 1000000
set_option maxHeartbeats 8000000
open Go.RowKit
def YC (id:Nat):Code→Option Code
 | .seq a b=>match a with
  | .region i _ _=>if i=id then some b else YC id b
  | _=>match YC id a with
   | some c=>some c
   | none=>YC id b
 | _=>none
theorem QaZ {P:Program} {c y:Code} {K:Act→World→Prop} {Q:Exit→Act→World→Prop} {a:Act} {w:World} (hk:∀ a w,y.wp P Q a w→K a w) (h:c.wp P (Exit.then (y.wp P Q) Q) a w):c.wp P (Exit.then K Q) a w :=
 wp_mono h fun e a w h=>by cases e <;> first | exact hk _ _ h | exact h
theorem Qkl {A8 BE BP C0 Cb A9 Cw Cx Cy Cz CA CB CC CD CE CF CG CH CI CJ CK CL CM CN CO CP CQ CR CS CT CU CV CW CX CY CZ D0 D1 D2 D3 D4 D5 D6 D7 D8 BF BG BH BI BJ BK BL BM BN BO BQ BR BS BT BU BV BW BX BY BZ C1 C2 C3 C4 C5 C6 C7 C8 C9 Ca Cc Cd Ce Cf Cg Ch Ci Cj Ck Cl Cm Cn Co Cp Cq Cr Cs Ct Cu Cv Aa Ab Ac Ad Ae Af Ag Ah Ai Aj Ak Al Am An Ao Ap Aq Ar As At Au Av Aw Ax Ay Az AA AB AC AD AE AF AG AH AI AJ AK AL AM AN AO AP AQ AR AS AT AU AV AW AX AY AZ B0 B1 B2 B3 B4 B5 B6 B7 B8 B9 Ba Bb Bc Bd Be Bf Bg Bh Bi Bj Bk Bl Bm Bn Bo Bp Bq Br Bs Bt Bu Bv Bw Bx By Bz BA BB BC BD x0 x1 x2 x3 x4 x5 x6 x7 x8 x9 u0 u1 u2 u3 u4 u5 u6 u7 u8 u9 A0 A1 A2 A3 A4 A5 A6 A7:Value} {gs gh N:Nat} {i q n m:Int} {od:Bool} {t:St} {w0 w:World} (F:Fr w0 [(gs,28,[x0,x1,x2,x3,x4,x5,x6,x7,x8,x9]),(gh,36,[u0,u1,u2,u3,u4,u5,u6,u7,u8,u9,A0,A1,A2,A3,A4,A5,A6,A7])] w) (HL:Hid (∀ W,Below w0.heap.size w0 W→Calls Tryz.prog 5 #[.agg #[x0,x1,x2,x3,x4,x5,x6,x7,x8,x9],.int .i64 i,.bool od] W fun e w'=>Below W.heap.size W w'∧∃ v',e=.returned (.tuple #[v',.int .i64 m,.int .i64 n])∧Qv N W.heap.size w' v' t)) (HR:Hid (∀ W,Below w0.heap.size w0 W→Calls Tryz.prog 6 #[.int .u8 105,.agg #[x0,x1,x2,x3,x4,x5,x6,x7,x8,x9],.int .i64 i,.int .i64 i,.bool od,.int .i64 q,.agg #[u0,u1,u2,u3,u4,u5,u6,u7,u8,u9,A0,A1,A2,A3,A4,A5,A6,A7]] W fun e w'=>Below W.heap.size W w'∧∃ v',e=.returned (.tuple #[v',.int .i64 m,.int .i64 n])∧Qv N W.heap.size w' v' t)) (HT:Hid t.fits) (Q:Exit→Act→World→Prop)
  (hNext:Hid (∀ (D9 Da Db Dc Dd De Df Dg Dh Di Dj Dk Dl Dm Dn Do Dp Dq Dr Ds Dt Du Dv Dw Dx Dy Dz DA DB DC DD DE DF DG DH DI DJ:Value) (ga gb:Nat) (pa pb:List Value) (w':World),pa.length=10→pb.length=10→Fr w0 [(gs,28,[x0,x1,x2,x3,x4,x5,x6,x7,x8,x9]),(gh,36,[u0,u1,u2,u3,u4,u5,u6,u7,u8,u9,A0,A1,A2,A3,A4,A5,A6,A7]),(ga,28,pa),(gb,28,pb)] w'→Code.wp Tryz.prog (.region 5 ((Tryz.f3.body.bind (Q3 5)).getD #[]) false) (Exit.then (Code.wp Tryz.prog ((Tryz.f3.body.bind (YC 5)).getD .skip) Q) Q) ⟨#[A8,.int .i64 i,.bool od,.int .i64 q,BE,.pointer (some ⟨gs,0,none⟩),BP,C0,Cb,.pointer (some ⟨gh,0,none⟩),A9,.pointer (some ⟨ga,0,none⟩),D9,Da,.pointer (some ⟨gb,0,none⟩),Db,Dc,Dd,De,Df,Dg,Dh,Di,Dj,Dk,Dl,Dm,Dn,Do,Dp,Dq,Dr,Ds,Dt,Du,Dv,Dw,Dx,Dy,Dz,DA,DB,DC,DD,DE,DF,DG,DH,DI,DJ,BF,BG,BH,BI,BJ,BK,BL,BM,BN,BO,BQ,BR,BS,BT,BU,BV,BW,BX,BY,BZ,C1,C2,C3,C4,C5,C6,C7,C8,C9,Ca,Cc,Cd,Ce,Cf,Cg,Ch,Ci,Cj,Ck,Cl,Cm,Cn,Co,Cp,Cq,Cr,Cs,Ct,Cu,Cv,Aa,Ab,Ac,Ad,Ae,Af,Ag,Ah,Ai,Aj,Ak,Al,Am,An,Ao,Ap,Aq,Ar,As,At,Au,Av,Aw,Ax,Ay,Az,AA,AB,AC,AD,AE,AF,AG,AH,AI,AJ,AK,AL,AM,AN,AO,AP,AQ,AR,AS,AT,AU,AV,AW,AX,AY,AZ,B0,B1,B2,B3,B4,B5,B6,B7,B8,B9,Ba,Bb,Bc,Bd,Be,Bf,Bg,Bh,Bi,Bj,Bk,Bl,Bm,Bn,Bo,Bp,Bq,Br,Bs,Bt,Bu,Bv,Bw,Bx,By,Bz,BA,BB,BC,BD],[]⟩ w')) :
  Code.wp Tryz.prog (.region 1 ((Tryz.f3.body.bind (Q3 1)).getD #[]) false) (Exit.then (Code.wp Tryz.prog ((Tryz.f3.body.bind (YC 1)).getD .skip) Q) Q) ⟨#[A8,.int .i64 i,.bool od,.int .i64 q,BE,.pointer (some ⟨gs,0,none⟩),BP,C0,Cb,.pointer (some ⟨gh,0,none⟩),A9,Cw,Cx,Cy,Cz,CA,CB,CC,CD,CE,CF,CG,CH,CI,CJ,CK,CL,CM,CN,CO,CP,CQ,CR,CS,CT,CU,CV,CW,CX,CY,CZ,D0,D1,D2,D3,D4,D5,D6,D7,D8,BF,BG,BH,BI,BJ,BK,BL,BM,BN,BO,BQ,BR,BS,BT,BU,BV,BW,BX,BY,BZ,C1,C2,C3,C4,C5,C6,C7,C8,C9,Ca,Cc,Cd,Ce,Cf,Cg,Ch,Ci,Cj,Ck,Cl,Cm,Cn,Co,Cp,Cq,Cr,Cs,Ct,Cu,Cv,Aa,Ab,Ac,Ad,Ae,Af,Ag,Ah,Ai,Aj,Ak,Al,Am,An,Ao,Ap,Aq,Ar,As,At,Au,Av,Aw,Ax,Ay,Az,AA,AB,AC,AD,AE,AF,AG,AH,AI,AJ,AK,AL,AM,AN,AO,AP,AQ,AR,AS,AT,AU,AV,AW,AX,AY,AZ,B0,B1,B2,B3,B4,B5,B6,B7,B8,B9,Ba,Bb,Bc,Bd,Be,Bf,Bg,Bh,Bi,Bj,Bk,Bl,Bm,Bn,Bo,Bp,Bq,Br,Bs,Bt,Bu,Bv,Bw,Bx,By,Bz,BA,BB,BC,BD],[]⟩ w:=by
 conv=>arg 2;arg 2;whnf
 conv=>arg 3;arg 1;arg 2;whnf
 conv=>arg 4;dsimp only
 have en:(n != n)=false:=by simp
 have eq:(n == n)=true:=by simp
 have em:(m != m)=false:=by simp
 go_wp2_with (first | refine F.load 0 rfl rfl rfl rfl Qb ?_ | refine F.load 1 rfl rfl rfl rfl Q1 ?_)
 refine (HL.out _ F.b).mono ?_
 rintro e w1 ⟨hb1,va,rfl,hva⟩
 have F1:=F.go hb1
 obtain ⟨a0,a1,a2,a3,a4,a5,a6,a7,a8,a9,rfl,hon⟩:=hva.now.ten
 have HVA:=hid hva
 have HON:=hid hon
 clear hb1 hva hon
 go_upto_region 2 with (refine F1.storeNew rfl rfl rfl rfl Qb rfl HON.out ?_;intro w2 F2 O2)
 have HA2:=hid (HVA.out.below O2)
 clear O2 HVA HON
 go_wp2_with (first | refine F2.load 0 rfl rfl rfl rfl Qb ?_ | refine F2.load 1 rfl rfl rfl rfl Q1 ?_)
 refine (HR.out _ F2.b).mono ?_
 rintro e w3 ⟨hb1,va,rfl,hva⟩
 have F3:=F2.go hb1
 have HA3:=hid (HA2.out.below hb1)
 obtain ⟨b0,b1,b2,b3,b4,b5,b6,b7,b8,b9,rfl,hon⟩:=hva.now.ten
 have HVA:=hid hva
 have HON:=hid hon
 clear hb1 hva hon HA2
 go_upto_region 3 with (refine F3.storeNew rfl rfl rfl rfl Qb rfl HON.out ?_;intro w4 F4 O2)
 have HB4:=hid (HVA.out.below O2)
 have HA4:=hid (HA3.out.below O2)
 clear O2 HVA HON HA3
 have HSM:=hid (Z8 t _ _ w4.heap.size w4 (Nat.le_refl _) HA4.out.now HB4.out.now HT.out)
 obtain ⟨k0,k1,k2,k3,k4,k5,k6,k7,k8,k9⟩:=F4.r2.k10
 obtain ⟨j0,j1,j2,j3,j4,j5,j6,j7,j8,j9⟩:=F4.r3.k10
 go_wp2_with fail
 refine HSM.out.mono ?_
 rintro e w5 ⟨rfl,hb1⟩
 have F5:=F4.go hb1
 clear hb1 k0 k1 k2 k3 k4 k5 k6 k7 k8 k9 j0 j1 j2 j3 j4 j5 j6 j7 j8 j9 HSM HA4 HB4
 go_upto_region 5 with fail
 refine QaZ (by assumption) ?_
 exact hNext.out _ _ _ _ _ _ _ _ _ _ _ _ _ _ _ _ _ _ _ _ _ _ _ _ _ _ _ _ _ _ _ _ _ _ _ _ _ _ _ _ _ _ rfl rfl F5
theorem Qkm {A8 C1 Cc Cd Ce A9 Cu Cv Cw Cx Bi Bt BE BH BI BJ BK BL BM BN BO BP BQ BR BS BT BU BV BW BX BY BZ C0 C2 C3 C4 C5 C6 C7 C8 C9 Ca Cb Cy Cz CA CB CC CD CE CF CG CH CI CJ CK CL CM CN CO CP CQ CR CS CT CU CV CW CX CY CZ D0 D1 D2 D3 D4 D5 D6 Cf Cg Ch Ci Cj Ck Cl Cm Cn Co Cp Cq Cr Cs Ct Aa Ab Ac Ad Ae Af Ag Ah Ai Aj Ak Al Am An Ao Ap Aq Ar As At Au Av Aw Ax Ay Az AA AB AC AD AE AF AG AH AI AJ AK AL AM AN AO AP AQ AR AS AT AU AV AW AX AY AZ B0 B1 B2 B3 B4 B5 B6 B7 B8 B9 Ba Bb Bc Bd Be Bf Bg Bh Bj Bk Bl Bm Bn Bo Bp Bq Br Bs Bu Bv Bw Bx By Bz BA BB BC BD BF BG x0 x1 x2 x3 x4 x5 x6 x7 x8 x9 u0 u1 u2 u3 u4 u5 u6 u7 u8 u9 A0 A1 A2 A3 A4 A5 A6 A7:Value} {gs gh ga gb N:Nat} {i q n m:Int} {od:Bool} {t:St} {w0 w:World} {oa ob:List Value} (F:Fr w0 [(gs,28,[x0,x1,x2,x3,x4,x5,x6,x7,x8,x9]),(gh,36,[u0,u1,u2,u3,u4,u5,u6,u7,u8,u9,A0,A1,A2,A3,A4,A5,A6,A7]),(ga,28,oa),(gb,28,ob)] w) (hN:N≤w0.heap.size) (hoa:oa.length=10) (hob:ob.length=10) (HL:Hid (∀ W,Below w0.heap.size w0 W→Calls Tryz.prog 8 #[.agg #[x0,x1,x2,x3,x4,x5,x6,x7,x8,x9],.int .i64 i,.bool od,.int .i64 q,.agg #[u0,u1,u2,u3,u4,u5,u6,u7,u8,u9,A0,A1,A2,A3,A4,A5,A6,A7]] W fun e w'=>Below W.heap.size W w'∧∃ v',e=.returned (.tuple #[v',.int .i64 m,.int .i64 n])∧Qv N W.heap.size w' v' t)) (HR:Hid (∀ W,Below w0.heap.size w0 W→Calls Tryz.prog 6 #[.int .u8 116,.agg #[x0,x1,x2,x3,x4,x5,x6,x7,x8,x9],.int .i64 i,.int .i64 i,.bool od,.int .i64 q,.agg #[u0,u1,u2,u3,u4,u5,u6,u7,u8,u9,A0,A1,A2,A3,A4,A5,A6,A7]] W fun e w'=>Below W.heap.size W w'∧∃ v',e=.returned (.tuple #[v',.int .i64 m,.int .i64 n])∧Qv N W.heap.size w' v' t)) (HT:Hid t.fits) (Q:Exit→Act→World→Prop)
  (hNext:Hid (∀ (D7 D8 D9 Da Db Dc Dd De Df Dg Dh Di Dj Dk Dl Dm Dn Do Dp Dq Dr Ds Dt Du Dv Dw Dx Dy Dz DA DB DC DD DE DF DG DH DI DJ:Value) (pa pb:List Value) (w':World),pa.length=10→pb.length=10→Fr w0 [(gs,28,[x0,x1,x2,x3,x4,x5,x6,x7,x8,x9]),(gh,36,[u0,u1,u2,u3,u4,u5,u6,u7,u8,u9,A0,A1,A2,A3,A4,A5,A6,A7]),(ga,28,pa),(gb,28,pb)] w'→Code.wp Tryz.prog (.region 9 ((Tryz.f3.body.bind (Q3 9)).getD #[]) false) (Exit.then (Code.wp Tryz.prog ((Tryz.f3.body.bind (YC 9)).getD .skip) Q) Q) ⟨#[A8,.int .i64 i,.bool od,.int .i64 q,C1,.pointer (some ⟨gs,0,none⟩),Cc,Cd,Ce,.pointer (some ⟨gh,0,none⟩),A9,.pointer (some ⟨ga,0,none⟩),D7,D8,.pointer (some ⟨gb,0,none⟩),D9,Da,Bi,Bt,BE,BH,BI,BJ,BK,BL,BM,BN,BO,BP,BQ,BR,BS,BT,BU,BV,BW,BX,BY,BZ,C0,C2,C3,C4,C5,C6,C7,C8,C9,Ca,Cb,Db,Dc,Dd,De,Df,Dg,Dh,Di,Dj,Dk,Dl,Dm,Dn,Do,Dp,Dq,Dr,Ds,Dt,Du,Dv,Dw,Dx,Dy,Dz,DA,DB,DC,DD,DE,DF,DG,DH,DI,DJ,Cf,Cg,Ch,Ci,Cj,Ck,Cl,Cm,Cn,Co,Cp,Cq,Cr,Cs,Ct,Aa,Ab,Ac,Ad,Ae,Af,Ag,Ah,Ai,Aj,Ak,Al,Am,An,Ao,Ap,Aq,Ar,As,At,Au,Av,Aw,Ax,Ay,Az,AA,AB,AC,AD,AE,AF,AG,AH,AI,AJ,AK,AL,AM,AN,AO,AP,AQ,AR,AS,AT,AU,AV,AW,AX,AY,AZ,B0,B1,B2,B3,B4,B5,B6,B7,B8,B9,Ba,Bb,Bc,Bd,Be,Bf,Bg,Bh,Bj,Bk,Bl,Bm,Bn,Bo,Bp,Bq,Br,Bs,Bu,Bv,Bw,Bx,By,Bz,BA,BB,BC,BD,BF,BG],[]⟩ w')) :
  Code.wp Tryz.prog (.region 5 ((Tryz.f3.body.bind (Q3 5)).getD #[]) false) (Exit.then (Code.wp Tryz.prog ((Tryz.f3.body.bind (YC 5)).getD .skip) Q) Q) ⟨#[A8,.int .i64 i,.bool od,.int .i64 q,C1,.pointer (some ⟨gs,0,none⟩),Cc,Cd,Ce,.pointer (some ⟨gh,0,none⟩),A9,.pointer (some ⟨ga,0,none⟩),Cu,Cv,.pointer (some ⟨gb,0,none⟩),Cw,Cx,Bi,Bt,BE,BH,BI,BJ,BK,BL,BM,BN,BO,BP,BQ,BR,BS,BT,BU,BV,BW,BX,BY,BZ,C0,C2,C3,C4,C5,C6,C7,C8,C9,Ca,Cb,Cy,Cz,CA,CB,CC,CD,CE,CF,CG,CH,CI,CJ,CK,CL,CM,CN,CO,CP,CQ,CR,CS,CT,CU,CV,CW,CX,CY,CZ,D0,D1,D2,D3,D4,D5,D6,Cf,Cg,Ch,Ci,Cj,Ck,Cl,Cm,Cn,Co,Cp,Cq,Cr,Cs,Ct,Aa,Ab,Ac,Ad,Ae,Af,Ag,Ah,Ai,Aj,Ak,Al,Am,An,Ao,Ap,Aq,Ar,As,At,Au,Av,Aw,Ax,Ay,Az,AA,AB,AC,AD,AE,AF,AG,AH,AI,AJ,AK,AL,AM,AN,AO,AP,AQ,AR,AS,AT,AU,AV,AW,AX,AY,AZ,B0,B1,B2,B3,B4,B5,B6,B7,B8,B9,Ba,Bb,Bc,Bd,Be,Bf,Bg,Bh,Bj,Bk,Bl,Bm,Bn,Bo,Bp,Bq,Br,Bs,Bu,Bv,Bw,Bx,By,Bz,BA,BB,BC,BD,BF,BG],[]⟩ w:=by
 conv=>arg 2;arg 2;whnf
 conv=>arg 3;arg 1;arg 2;whnf
 conv=>arg 4;dsimp only
 have en:(n != n)=false:=by simp
 have eq:(n == n)=true:=by simp
 have em:(m != m)=false:=by simp
 go_wp2_with (first | refine F.load 0 rfl rfl rfl rfl Qb ?_ | refine F.load 1 rfl rfl rfl rfl Q1 ?_)
 refine (HL.out _ F.b).mono ?_
 rintro e w1 ⟨hb1,va,rfl,hva⟩
 have F1:=F.go hb1
 obtain ⟨a0,a1,a2,a3,a4,a5,a6,a7,a8,a9,rfl,hon⟩:=hva.now.ten
 have HVA:=hid hva
 have HON:=hid hon
 clear hb1 hva hon
 go_upto_region 6 with (refine F1.store 2 rfl rfl rfl rfl rfl (hoa.symm ▸ Qb) hoa HON.out ?_;intro w2 F2 O2)
 have HA2:=hid (HVA.out.only O2 (Nat.le_trans hN (F1.own _ (.tail _ (.tail _ (.head _))))) F.r2.lt)
 clear O2 HVA HON
 go_wp2_with (first | refine F2.load 0 rfl rfl rfl rfl Qb ?_ | refine F2.load 1 rfl rfl rfl rfl Q1 ?_)
 refine (HR.out _ F2.b).mono ?_
 rintro e w3 ⟨hb1,va,rfl,hva⟩
 have F3:=F2.go hb1
 have HA3:=hid (HA2.out.below hb1)
 obtain ⟨b0,b1,b2,b3,b4,b5,b6,b7,b8,b9,rfl,hon⟩:=hva.now.ten
 have HVA:=hid hva
 have HON:=hid hon
 clear hb1 hva hon HA2
 go_upto_region 7 with (refine F3.store 3 rfl rfl rfl rfl rfl (hob.symm ▸ Qb) hob HON.out ?_;intro w4 F4 O2)
 have hgb:=F3.own _ (.tail _ (.tail _ (.tail _ (.head _))))
 have HB4:=hid (HVA.out.only O2 (Nat.le_trans hN hgb) F2.r3.lt)
 have HA4:=hid (HA3.out.only O2 (Nat.le_trans hN hgb) F.r3.lt)
 clear hgb
 clear O2 HVA HON HA3
 have HSM:=hid (Z8 t _ _ w4.heap.size w4 (Nat.le_refl _) HA4.out.now HB4.out.now HT.out)
 obtain ⟨k0,k1,k2,k3,k4,k5,k6,k7,k8,k9⟩:=F4.r2.k10
 obtain ⟨j0,j1,j2,j3,j4,j5,j6,j7,j8,j9⟩:=F4.r3.k10
 go_wp2_with fail
 refine HSM.out.mono ?_
 rintro e w5 ⟨rfl,hb1⟩
 have F5:=F4.go hb1
 clear hb1 k0 k1 k2 k3 k4 k5 k6 k7 k8 k9 j0 j1 j2 j3 j4 j5 j6 j7 j8 j9 HSM HA4 HB4
 go_upto_region 9 with fail
 refine QaZ (by assumption) ?_
 exact hNext.out _ _ _ _ _ _ _ _ _ _ _ _ _ _ _ _ _ _ _ _ _ _ _ _ _ _ _ _ _ _ _ _ _ _ _ _ _ _ _ _ _ _ rfl rfl F5
end Go.Proofs.YtbgdpfeobklnhaaGreatDoor
