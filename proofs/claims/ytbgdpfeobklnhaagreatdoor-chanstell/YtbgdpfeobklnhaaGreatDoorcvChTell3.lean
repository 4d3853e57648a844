/-
  ChansTell: its steps, one by one.
-/
import Derived.Test.YtbgdpfeobklnhaaGreatDoorcvChTell1
namespace Go.Proofs.YtbgdpfeobklnhaaGreatDoor
set_option maxRecDepth 1000000
set_option maxHeartbeats 8000000
open Go.RowKit
theorem Qkj {A8 BO C9 Ck Cv A9 CO CP CQ CR B5 Bg Br Bu Bv Bw Bx By Bz BA BB BC BD BE BF BG BH BI BJ BK BL BM BN BP BQ BR BS BT BU BV BW BX BY BZ C0 C1 C2 C3 C4 C5 C6 C7 C8 Ca Cb Cc Cd Ce Cf Cg Ch Ci Cj Cl Cm Cn Co Cp Cq Cr Cs Ct Cu Cw Cx Cy Cz CA CS CT CU CV CW CX CY CZ D0 D1 D2 D3 D4 D5 D6 CB CC CD CE CF CG CH CI CJ CK CL CM CN Aa Ab Ac Ad Ae Af Ag Ah Ai Aj Ak Al Am An Ao Ap Aq Ar As At Au Av Aw Ax Ay Az AA AB AC AD AE AF AG AH AI AJ AK AL AM AN AO AP AQ AR AS AT AU AV AW AX AY AZ B0 B1 B2 B3 B4 B6 B7 B8 B9 Ba Bb Bc Bd Be Bf Bh Bi Bj Bk Bl Bm Bn Bo Bp Bq Bs Bt x0 x1 x2 x3 x4 x5 x6 x7 x8 x9 u0 u1 u2 u3 u4 u5 u6 u7 u8 u9 A0 A1 A2 A3 A4 A5 A6 A7:Value} {gs gh ga gb N:Nat} {i q n:Int} {od:Bool} {t:St} {w0 w:World} {oa ob:List Value} (F:Fr w0 [(gs,28,[x0,x1,x2,x3,x4,x5,x6,x7,x8,x9]),(gh,36,[u0,u1,u2,u3,u4,u5,u6,u7,u8,u9,A0,A1,A2,A3,A4,A5,A6,A7]),(ga,28,oa),(gb,28,ob)] w) (hN:N≤w0.heap.size) (hoa:oa.length=10) (hob:ob.length=10) (HL:Hid (∀ W,Below w0.heap.size w0 W→Calls Tryz.prog 9 #[.agg #[x0,x1,x2,x3,x4,x5,x6,x7,x8,x9],.int .i64 i,.int .i64 q,.agg #[u0,u1,u2,u3,u4,u5,u6,u7,u8,u9,A0,A1,A2,A3,A4,A5,A6,A7]] W fun e w'=>Below W.heap.size W w'∧∃ v',e=.returned (.tuple #[v',.int .i64 n])∧Qv N W.heap.size w' v' t)) (HR:Hid (∀ W,Below w0.heap.size w0 W→Calls Tryz.prog 6 #[.int .u8 97,.agg #[x0,x1,x2,x3,x4,x5,x6,x7,x8,x9],.int .i64 i,.int .i64 i,.bool od,.int .i64 q,.agg #[u0,u1,u2,u3,u4,u5,u6,u7,u8,u9,A0,A1,A2,A3,A4,A5,A6,A7]] W fun e w'=>Below W.heap.size W w'∧∃ v',e=.returned (.tuple #[v',.int .i64 0,.int .i64 n])∧Qv N W.heap.size w' v' t)) (HT:Hid t.fits) (Q:Exit→Act→World→Prop)
  (hNext:Hid (∀ (Dk Dl Dm Dn Do Dp Dq Dr Ds Dt Du Dv Dw Dx Dy Dz DA DB DC D7 D8 D9 Da Db Dc Dd De Df Dg Dh Di Dj:Value) (pa pb:List Value) (w':World),pa.length=10→pb.length=10→Fr w0 [(gs,28,[x0,x1,x2,x3,x4,x5,x6,x7,x8,x9]),(gh,36,[u0,u1,u2,u3,u4,u5,u6,u7,u8,u9,A0,A1,A2,A3,A4,A5,A6,A7]),(ga,28,pa),(gb,28,pb)] w'→Code.wp Tryz.prog (.region 13 ((Tryz.f3.body.bind (Q3 13)).getD #[]) false) (Exit.then (Code.wp Tryz.prog ((Tryz.f3.body.bind (YC 13)).getD .skip) Q) Q) ⟨#[A8,.int .i64 i,.bool od,.int .i64 q,BO,.pointer (some ⟨gs,0,none⟩),C9,Ck,Cv,.pointer (some ⟨gh,0,none⟩),A9,.pointer (some ⟨ga,0,none⟩),Dk,Dl,.pointer (some ⟨gb,0,none⟩),Dm,Dn,B5,Bg,Br,Bu,Bv,Bw,Bx,By,Bz,BA,BB,BC,BD,BE,BF,BG,BH,BI,BJ,BK,BL,BM,BN,BP,BQ,BR,BS,BT,BU,BV,BW,BX,BY,BZ,C0,C1,C2,C3,C4,C5,C6,C7,C8,Ca,Cb,Cc,Cd,Ce,Cf,Cg,Ch,Ci,Cj,Cl,Cm,Cn,Co,Cp,Cq,Cr,Cs,Ct,Cu,Cw,Cx,Cy,Cz,CA,Do,Dp,Dq,Dr,Ds,Dt,Du,Dv,Dw,Dx,Dy,Dz,DA,DB,DC,D7,D8,D9,Da,Db,Dc,Dd,De,Df,Dg,Dh,Di,Dj,Aa,Ab,Ac,Ad,Ae,Af,Ag,Ah,Ai,Aj,Ak,Al,Am,An,Ao,Ap,Aq,Ar,As,At,Au,Av,Aw,Ax,Ay,Az,AA,AB,AC,AD,AE,AF,AG,AH,AI,AJ,AK,AL,AM,AN,AO,AP,AQ,AR,AS,AT,AU,AV,AW,AX,AY,AZ,B0,B1,B2,B3,B4,B6,B7,B8,B9,Ba,Bb,Bc,Bd,Be,Bf,Bh,Bi,Bj,Bk,Bl,Bm,Bn,Bo,Bp,Bq,Bs,Bt],[]⟩ w')) :
  Code.wp Tryz.prog (.region 9 ((Tryz.f3.body.bind (Q3 9)).getD #[]) false) (Exit.then (Code.wp Tryz.prog ((Tryz.f3.body.bind (YC 9)).getD .skip) Q) Q) ⟨#[A8,.int .i64 i,.bool od,.int .i64 q,BO,.pointer (some ⟨gs,0,none⟩),C9,Ck,Cv,.pointer (some ⟨gh,0,none⟩),A9,.pointer (some ⟨ga,0,none⟩),CO,CP,.pointer (some ⟨gb,0,none⟩),CQ,CR,B5,Bg,Br,Bu,Bv,Bw,Bx,By,Bz,BA,BB,BC,BD,BE,BF,BG,BH,BI,BJ,BK,BL,BM,BN,BP,BQ,BR,BS,BT,BU,BV,BW,BX,BY,BZ,C0,C1,C2,C3,C4,C5,C6,C7,C8,Ca,Cb,Cc,Cd,Ce,Cf,Cg,Ch,Ci,Cj,Cl,Cm,Cn,Co,Cp,Cq,Cr,Cs,Ct,Cu,Cw,Cx,Cy,Cz,CA,CS,CT,CU,CV,CW,CX,CY,CZ,D0,D1,D2,D3,D4,D5,D6,CB,CC,CD,CE,CF,CG,CH,CI,CJ,CK,CL,CM,CN,Aa,Ab,Ac,Ad,Ae,Af,Ag,Ah,Ai,Aj,Ak,Al,Am,An,Ao,Ap,Aq,Ar,As,At,Au,Av,Aw,Ax,Ay,Az,AA,AB,AC,AD,AE,AF,AG,AH,AI,AJ,AK,AL,AM,AN,AO,AP,AQ,AR,AS,AT,AU,AV,AW,AX,AY,AZ,B0,B1,B2,B3,B4,B6,B7,B8,B9,Ba,Bb,Bc,Bd,Be,Bf,Bh,Bi,Bj,Bk,Bl,Bm,Bn,Bo,Bp,Bq,Bs,Bt],[]⟩ w:=by
 conv=>arg 2;arg 2;whnf
 conv=>arg 3;arg 1;arg 2;whnf
 conv=>arg 4;dsimp only
 have en:(n != n)=false:=by simp
 have eq:(n == n)=true:=by simp
 go_wp2_with (first | refine F.load 0 rfl rfl rfl rfl Qb ?_ | refine F.load 1 rfl rfl rfl rfl Q1 ?_)
 refine (HL.out _ F.b).mono ?_
 rintro e w1 ⟨hb1,va,rfl,hva⟩
 have F1:=F.go hb1
 obtain ⟨a0,a1,a2,a3,a4,a5,a6,a7,a8,a9,rfl,hon⟩:=hva.now.ten
 have HVA:=hid hva
 have HON:=hid hon
 clear hb1 hva hon
 go_upto_region 10 with (refine F1.store 2 rfl rfl rfl rfl rfl (hoa.symm ▸ Qb) hoa HON.out ?_;intro w2 F2 O2)
 have HA2:=hid (HVA.out.only O2 (Nat.le_trans hN (F1.own _ (.tail _ (.tail _ (.head _))))) F.r2.lt)
 clear O2 HVA HON
 go_wp2_with (first | refine F2.load 0 rfl rfl rfl rfl Qb ?_ | refine F2.load 1 rfl rfl rfl rfl Q1 ?_)
 refine (HR.out _ F2.b).mono ?_
 rintro e w3 ⟨hb1,va,rfl,hva⟩
 have F3:=F2.go hb1
 have HA3:=hid (HA2.out.below hb1)
 obtain ⟨b0,b1,b2,b3,b4,b5,b6,b7,b8,b9,rfl,hon⟩:=hva.now.ten
 have HVA:=hid hva
 have HON:=hid hon
 clear hb1 hva hon HA2
 go_upto_region 11 with (refine F3.store 3 rfl rfl rfl rfl rfl (hob.symm ▸ Qb) hob HON.out ?_;intro w4 F4 O2)
 have hgb:=F3.own _ (.tail _ (.tail _ (.tail _ (.head _))))
 have HB4:=hid (HVA.out.only O2 (Nat.le_trans hN hgb) F2.r3.lt)
 have HA4:=hid (HA3.out.only O2 (Nat.le_trans hN hgb) F.r3.lt)
 clear hgb
 clear O2 HVA HON HA3
 have HSM:=hid (Z8 t _ _ w4.heap.size w4 (Nat.le_refl _) HA4.out.now HB4.out.now HT.out)
 obtain ⟨k0,k1,k2,k3,k4,k5,k6,k7,k8,k9⟩:=F4.r2.k10
 obtain ⟨j0,j1,j2,j3,j4,j5,j6,j7,j8,j9⟩:=F4.r3.k10
 go_wp2_with fail
 refine HSM.out.mono ?_
 rintro e w5 ⟨rfl,hb1⟩
 have F5:=F4.go hb1
 clear hb1 k0 k1 k2 k3 k4 k5 k6 k7 k8 k9 j0 j1 j2 j3 j4 j5 j6 j7 j8 j9 HSM HA4 HB4
 go_upto_region 13 with fail
 refine QaZ (by assumption) ?_
 exact hNext.out _ _ _ _ _ _ _ _ _ _ _ _ _ _ _ _ _ _ _ _ _ _ _ _ _ _ _ _ _ _ _ _ _ _ _ rfl rfl F5
theorem Qkk {A8 BA BV C6 Ch A9 CJ CU D5 D6 AR B2 Bd Bg Bh Bi Bj Bk Bl Bm Bn Bo Bp Bq Br Bs Bt Bu Bv Bw Bx By Bz BB BC BD BE BF BG BH BI BJ BK BL BM BN BO BP BQ BR BS BT BU BW BX BY BZ C0 C1 C2 C3 C4 C5 C7 C8 C9 Ca Cb Cc Cd Ce Cf Cg Ci Cj Ck Cl Cm Cn Co Cp Cq Cr Cs Ct Cu Cv Cw Cx Cy Cz CA CB Aa Ab Ac Ad Ae Af Ag Ah Ai Aj Ak Al Am CC CD CE CF CG CH CI CK CL CM CN CO CP CQ CR CS CT CV CW CX CY CZ D0 D1 D2 D3 D4 An Ao Ap Aq Ar As At Au Av Aw Ax Ay Az AA AB AC AD AE AF AG AH AI AJ AK AL AM AN AO AP AQ AS AT AU AV AW AX AY AZ B0 B1 B3 B4 B5 B6 B7 B8 B9 Ba Bb Bc Be Bf x0 x1 x2 x3 x4 x5 x6 x7 x8 x9 u0 u1 u2 u3 u4 u5 u6 u7 u8 u9 A0 A1 A2 A3 A4 A5 A6 A7:Value} {gs gh ga gb N:Nat} {i q n:Int} {od:Bool} {t:St} {w0 w:World} {oa ob:List Value} (F:Fr w0 [(gs,28,[x0,x1,x2,x3,x4,x5,x6,x7,x8,x9]),(gh,36,[u0,u1,u2,u3,u4,u5,u6,u7,u8,u9,A0,A1,A2,A3,A4,A5,A6,A7]),(ga,28,oa),(gb,28,ob)] w) (hN:N≤w0.heap.size) (hoa:oa.length=10) (hob:ob.length=10) (HL:Hid (∀ W,Below w0.heap.size w0 W→Calls Tryz.prog 10 #[.agg #[x0,x1,x2,x3,x4,x5,x6,x7,x8,x9],.int .i64 i,.agg #[u0,u1,u2,u3,u4,u5,u6,u7,u8,u9,A0,A1,A2,A3,A4,A5,A6,A7]] W fun e w'=>Below W.heap.size W w'∧∃ v',e=.returned (.tuple #[v',.int .i64 n])∧Qv N W.heap.size w' v' t)) (HR:Hid (∀ W,Below w0.heap.size w0 W→Calls Tryz.prog 6 #[.int .u8 99,.agg #[x0,x1,x2,x3,x4,x5,x6,x7,x8,x9],.int .i64 i,.int .i64 i,.bool od,.int .i64 q,.agg #[u0,u1,u2,u3,u4,u5,u6,u7,u8,u9,A0,A1,A2,A3,A4,A5,A6,A7]] W fun e w'=>Below W.heap.size W w'∧∃ v',e=.returned (.tuple #[v',.int .i64 0,.int .i64 n])∧Qv N W.heap.size w' v' t)) (HT:Hid t.fits) (Q:Exit→Act→World→Prop)
  (hNext:Hid (∀ (De Dp DA DB D7 D8 D9 Da Db Dc Dd Df Dg Dh Di Dj Dk Dl Dm Dn Do Dq Dr Ds Dt Du Dv Dw Dx Dy Dz:Value) (pa pb:List Value) (w':World),pa.length=10→pb.length=10→Fr w0 [(gs,28,[x0,x1,x2,x3,x4,x5,x6,x7,x8,x9]),(gh,36,[u0,u1,u2,u3,u4,u5,u6,u7,u8,u9,A0,A1,A2,A3,A4,A5,A6,A7]),(ga,28,pa),(gb,28,pb)] w'→Code.wp Tryz.prog (.region 17 ((Tryz.f3.body.bind (Q3 17)).getD #[]) false) (Exit.then (Code.wp Tryz.prog ((Tryz.f3.body.bind (YC 17)).getD .skip) Q) Q) ⟨#[A8,.int .i64 i,.bool od,.int .i64 q,BA,.pointer (some ⟨gs,0,none⟩),BV,C6,Ch,.pointer (some ⟨gh,0,none⟩),A9,.pointer (some ⟨ga,0,none⟩),De,Dp,.pointer (some ⟨gb,0,none⟩),DA,DB,AR,B2,Bd,Bg,Bh,Bi,Bj,Bk,Bl,Bm,Bn,Bo,Bp,Bq,Br,Bs,Bt,Bu,Bv,Bw,Bx,By,Bz,BB,BC,BD,BE,BF,BG,BH,BI,BJ,BK,BL,BM,BN,BO,BP,BQ,BR,BS,BT,BU,BW,BX,BY,BZ,C0,C1,C2,C3,C4,C5,C7,C8,C9,Ca,Cb,Cc,Cd,Ce,Cf,Cg,Ci,Cj,Ck,Cl,Cm,Cn,Co,Cp,Cq,Cr,Cs,Ct,Cu,Cv,Cw,Cx,Cy,Cz,CA,CB,Aa,Ab,Ac,Ad,Ae,Af,Ag,Ah,Ai,Aj,Ak,Al,Am,D7,D8,D9,Da,Db,Dc,Dd,Df,Dg,Dh,Di,Dj,Dk,Dl,Dm,Dn,Do,Dq,Dr,Ds,Dt,Du,Dv,Dw,Dx,Dy,Dz,An,Ao,Ap,Aq,Ar,As,At,Au,Av,Aw,Ax,Ay,Az,AA,AB,AC,AD,AE,AF,AG,AH,AI,AJ,AK,AL,AM,AN,AO,AP,AQ,AS,AT,AU,AV,AW,AX,AY,AZ,B0,B1,B3,B4,B5,B6,B7,B8,B9,Ba,Bb,Bc,Be,Bf],[]⟩ w')) :
  Code.wp Tryz.prog (.region 13 ((Tryz.f3.body.bind (Q3 13)).getD #[]) false) (Exit.then (Code.wp Tryz.prog ((Tryz.f3.body.bind (YC 13)).getD .skip) Q) Q) ⟨#[A8,.int .i64 i,.bool od,.int .i64 q,BA,.pointer (some ⟨gs,0,none⟩),BV,C6,Ch,.pointer (some ⟨gh,0,none⟩),A9,.pointer (some ⟨ga,0,none⟩),CJ,CU,.pointer (some ⟨gb,0,none⟩),D5,D6,AR,B2,Bd,Bg,Bh,Bi,Bj,Bk,Bl,Bm,Bn,Bo,Bp,Bq,Br,Bs,Bt,Bu,Bv,Bw,Bx,By,Bz,BB,BC,BD,BE,BF,BG,BH,BI,BJ,BK,BL,BM,BN,BO,BP,BQ,BR,BS,BT,BU,BW,BX,BY,BZ,C0,C1,C2,C3,C4,C5,C7,C8,C9,Ca,Cb,Cc,Cd,Ce,Cf,Cg,Ci,Cj,Ck,Cl,Cm,Cn,Co,Cp,Cq,Cr,Cs,Ct,Cu,Cv,Cw,Cx,Cy,Cz,CA,CB,Aa,Ab,Ac,Ad,Ae,Af,Ag,Ah,Ai,Aj,Ak,Al,Am,CC,CD,CE,CF,CG,CH,CI,CK,CL,CM,CN,CO,CP,CQ,CR,CS,CT,CV,CW,CX,CY,CZ,D0,D1,D2,D3,D4,An,Ao,Ap,Aq,Ar,As,At,Au,Av,Aw,Ax,Ay,Az,AA,AB,AC,AD,AE,AF,AG,AH,AI,AJ,AK,AL,AM,AN,AO,AP,AQ,AS,AT,AU,AV,AW,AX,AY,AZ,B0,B1,B3,B4,B5,B6,B7,B8,B9,Ba,Bb,Bc,Be,Bf],[]⟩ w:=by
 conv=>arg 2;arg 2;whnf
 conv=>arg 3;arg 1;arg 2;whnf
 conv=>arg 4;dsimp only
 have en:(n != n)=false:=by simp
 have eq:(n == n)=true:=by simp
 go_wp2_with (first | refine F.load 0 rfl rfl rfl rfl Qb ?_ | refine F.load 1 rfl rfl rfl rfl Q1 ?_)
 refine (HL.out _ F.b).mono ?_
 rintro e w1 ⟨hb1,va,rfl,hva⟩
 have F1:=F.go hb1
 obtain ⟨a0,a1,a2,a3,a4,a5,a6,a7,a8,a9,rfl,hon⟩:=hva.now.ten
 have HVA:=hid hva
 have HON:=hid hon
 clear hb1 hva hon
 go_upto_region 14 with (refine F1.store 2 rfl rfl rfl rfl rfl (hoa.symm ▸ Qb) hoa HON.out ?_;intro w2 F2 O2)
 have HA2:=hid (HVA.out.only O2 (Nat.le_trans hN (F1.own _ (.tail _ (.tail _ (.head _))))) F.r2.lt)
 clear O2 HVA HON
 go_wp2_with (first | refine F2.load 0 rfl rfl rfl rfl Qb ?_ | refine F2.load 1 rfl rfl rfl rfl Q1 ?_)
 refine (HR.out _ F2.b).mono ?_
 rintro e w3 ⟨hb1,va,rfl,hva⟩
 have F3:=F2.go hb1
 have HA3:=hid (HA2.out.below hb1)
 obtain ⟨b0,b1,b2,b3,b4,b5,b6,b7,b8,b9,rfl,hon⟩:=hva.now.ten
 have HVA:=hid hva
 have HON:=hid hon
 clear hb1 hva hon HA2
 go_upto_region 15 with (refine F3.store 3 rfl rfl rfl rfl rfl (hob.symm ▸ Qb) hob HON.out ?_;intro w4 F4 O2)
 have hgb:=F3.own _ (.tail _ (.tail _ (.tail _ (.head _))))
 have HB4:=hid (HVA.out.only O2 (Nat.le_trans hN hgb) F2.r3.lt)
 have HA4:=hid (HA3.out.only O2 (Nat.le_trans hN hgb) F.r3.lt)
 clear hgb
 clear O2 HVA HON HA3
 have HSM:=hid (Z8 t _ _ w4.heap.size w4 (Nat.le_refl _) HA4.out.now HB4.out.now HT.out)
 obtain ⟨k0,k1,k2,k3,k4,k5,k6,k7,k8,k9⟩:=F4.r2.k10
 obtain ⟨j0,j1,j2,j3,j4,j5,j6,j7,j8,j9⟩:=F4.r3.k10
 go_wp2_with fail
 refine HSM.out.mono ?_
 rintro e w5 ⟨rfl,hb1⟩
 have F5:=F4.go hb1
 clear hb1 k0 k1 k2 k3 k4 k5 k6 k7 k8 k9 j0 j1 j2 j3 j4 j5 j6 j7 j8 j9 HSM HA4 HB4
 go_upto_region 17 with fail
 refine QaZ (by assumption) ?_
 exact hNext.out _ _ _ _ _ _ _ _ _ _ _ _ _ _ _ _ _ _ _ _ _ _ _ _ _ _ _ _ _ _ _ _ _ _ rfl rfl F5
theorem Qkn {A8 BB BW C7 Ci A9 CD CE CP D0 AS B3 Be Bh Bi Bj Bk Bl Bm Bn Bo Bp Bq Br Bs Bt Bu Bv Bw Bx By Bz BA BC BD BE BF BG BH BI BJ BK BL BM BN BO BP BQ BR BS BT BU BV BX BY BZ C0 C1 C2 C3 C4 C5 C6 C8 C9 Ca Cb Cc Cd Ce Cf Cg Ch Cj Ck Cl Cm Cn Co Cp Cq Cr Cs Ct Cu Cv Cw Cx Cy Cz CA CB CC Aa Ab Ac Ad Ae Af Ag Ah Ai Aj Ak Al Am An Ao Ap Aq Ar As At Au Av Aw Ax Ay Az AA AB AC AD AE AF AG AH AI AJ AK AL AM AN CF CG CH CI CJ CK CL CM CN CO CQ CR CS CT CU CV CW CX CY CZ D1 D2 D3 D4 D5 D6 AO AP AQ AR AT AU AV AW AX AY AZ B0 B1 B2 B4 B5 B6 B7 B8 B9 Ba Bb Bc Bd Bf Bg x0 x1 x2 x3 x4 x5 x6 x7 x8 x9 u0 u1 u2 u3 u4 u5 u6 u7 u8 u9 A0 A1 A2 A3 A4 A5 A6 A7:Value} {gs gh ga gb N:Nat} {i q n:Int} {od:Bool} {t:St} {w0 w:World} {oa ob:List Value} (F:Fr w0 [(gs,28,[x0,x1,x2,x3,x4,x5,x6,x7,x8,x9]),(gh,36,[u0,u1,u2,u3,u4,u5,u6,u7,u8,u9,A0,A1,A2,A3,A4,A5,A6,A7]),(ga,28,oa),(gb,28,ob)] w) (hN:N≤w0.heap.size) (hoa:oa.length=10) (hob:ob.length=10) (HL:Hid (∀ W,Below w0.heap.size w0 W→Calls Tryz.prog 11 #[.agg #[x0,x1,x2,x3,x4,x5,x6,x7,x8,x9],.int .i64 i] W fun e w'=>Below W.heap.size W w'∧∃ v',e=.returned (.tuple #[v',.int .i64 n])∧Qv N W.heap.size w' v' t)) (HR:Hid (∀ W,Below w0.heap.size w0 W→Calls Tryz.prog 6 #[.int .u8 120,.agg #[x0,x1,x2,x3,x4,x5,x6,x7,x8,x9],.int .i64 i,.int .i64 i,.bool od,.int .i64 q,.agg #[u0,u1,u2,u3,u4,u5,u6,u7,u8,u9,A0,A1,A2,A3,A4,A5,A6,A7]] W fun e w'=>Below W.heap.size W w'∧∃ v',e=.returned (.tuple #[v',.int .i64 0,.int .i64 n])∧Qv N W.heap.size w' v' t)) (HT:Hid t.fits) (Q:Exit→Act→World→Prop)
  (hNext:Hid (∀ (D7 D8 Dj Du D9 Da Db Dc Dd De Df Dg Dh Di Dk Dl Dm Dn Do Dp Dq Dr Ds Dt Dv Dw Dx Dy Dz DA:Value) (pa pb:List Value) (w':World),pa.length=10→pb.length=10→Fr w0 [(gs,28,[x0,x1,x2,x3,x4,x5,x6,x7,x8,x9]),(gh,36,[u0,u1,u2,u3,u4,u5,u6,u7,u8,u9,A0,A1,A2,A3,A4,A5,A6,A7]),(ga,28,pa),(gb,28,pb)] w'→Code.wp Tryz.prog (.region 21 ((Tryz.f3.body.bind (Q3 21)).getD #[]) false) (Exit.then (Code.wp Tryz.prog ((Tryz.f3.body.bind (YC 21)).getD .skip) Q) Q) ⟨#[A8,.int .i64 i,.bool od,.int .i64 q,BB,.pointer (some ⟨gs,0,none⟩),BW,C7,Ci,.pointer (some ⟨gh,0,none⟩),A9,.pointer (some ⟨ga,0,none⟩),D7,D8,.pointer (some ⟨gb,0,none⟩),Dj,Du,AS,B3,Be,Bh,Bi,Bj,Bk,Bl,Bm,Bn,Bo,Bp,Bq,Br,Bs,Bt,Bu,Bv,Bw,Bx,By,Bz,BA,BC,BD,BE,BF,BG,BH,BI,BJ,BK,BL,BM,BN,BO,BP,BQ,BR,BS,BT,BU,BV,BX,BY,BZ,C0,C1,C2,C3,C4,C5,C6,C8,C9,Ca,Cb,Cc,Cd,Ce,Cf,Cg,Ch,Cj,Ck,Cl,Cm,Cn,Co,Cp,Cq,Cr,Cs,Ct,Cu,Cv,Cw,Cx,Cy,Cz,CA,CB,CC,Aa,Ab,Ac,Ad,Ae,Af,Ag,Ah,Ai,Aj,Ak,Al,Am,An,Ao,Ap,Aq,Ar,As,At,Au,Av,Aw,Ax,Ay,Az,AA,AB,AC,AD,AE,AF,AG,AH,AI,AJ,AK,AL,AM,AN,D9,Da,Db,Dc,Dd,De,Df,Dg,Dh,Di,Dk,Dl,Dm,Dn,Do,Dp,Dq,Dr,Ds,Dt,Dv,Dw,Dx,Dy,Dz,DA,AO,AP,AQ,AR,AT,AU,AV,AW,AX,AY,AZ,B0,B1,B2,B4,B5,B6,B7,B8,B9,Ba,Bb,Bc,Bd,Bf,Bg],[]⟩ w')) :
  Code.wp Tryz.prog (.region 17 ((Tryz.f3.body.bind (Q3 17)).getD #[]) false) (Exit.then (Code.wp Tryz.prog ((Tryz.f3.body.bind (YC 17)).getD .skip) Q) Q) ⟨#[A8,.int .i64 i,.bool od,.int .i64 q,BB,.pointer (some ⟨gs,0,none⟩),BW,C7,Ci,.pointer (some ⟨gh,0,none⟩),A9,.pointer (some ⟨ga,0,none⟩),CD,CE,.pointer (some ⟨gb,0,none⟩),CP,D0,AS,B3,Be,Bh,Bi,Bj,Bk,Bl,Bm,Bn,Bo,Bp,Bq,Br,Bs,Bt,Bu,Bv,Bw,Bx,By,Bz,BA,BC,BD,BE,BF,BG,BH,BI,BJ,BK,BL,BM,BN,BO,BP,BQ,BR,BS,BT,BU,BV,BX,BY,BZ,C0,C1,C2,C3,C4,C5,C6,C8,C9,Ca,Cb,Cc,Cd,Ce,Cf,Cg,Ch,Cj,Ck,Cl,Cm,Cn,Co,Cp,Cq,Cr,Cs,Ct,Cu,Cv,Cw,Cx,Cy,Cz,CA,CB,CC,Aa,Ab,Ac,Ad,Ae,Af,Ag,Ah,Ai,Aj,Ak,Al,Am,An,Ao,Ap,Aq,Ar,As,At,Au,Av,Aw,Ax,Ay,Az,AA,AB,AC,AD,AE,AF,AG,AH,AI,AJ,AK,AL,AM,AN,CF,CG,CH,CI,CJ,CK,CL,CM,CN,CO,CQ,CR,CS,CT,CU,CV,CW,CX,CY,CZ,D1,D2,D3,D4,D5,D6,AO,AP,AQ,AR,AT,AU,AV,AW,AX,AY,AZ,B0,B1,B2,B4,B5,B6,B7,B8,B9,Ba,Bb,Bc,Bd,Bf,Bg],[]⟩ w:=by
 conv=>arg 2;arg 2;whnf
 conv=>arg 3;arg 1;arg 2;whnf
 conv=>arg 4;dsimp only
 have en:(n != n)=false:=by simp
 have eq:(n == n)=true:=by simp
 go_wp2_with (first | refine F.load 0 rfl rfl rfl rfl Qb ?_ | refine F.load 1 rfl rfl rfl rfl Q1 ?_)
 refine (HL.out _ F.b).mono ?_
 rintro e w1 ⟨hb1,va,rfl,hva⟩
 have F1:=F.go hb1
 obtain ⟨a0,a1,a2,a3,a4,a5,a6,a7,a8,a9,rfl,hon⟩:=hva.now.ten
 have HVA:=hid hva
 have HON:=hid hon
 clear hb1 hva hon
 go_upto_region 18 with (refine F1.store 2 rfl rfl rfl rfl rfl (hoa.symm ▸ Qb) hoa HON.out ?_;intro w2 F2 O2)
 have HA2:=hid (HVA.out.only O2 (Nat.le_trans hN (F1.own _ (.tail _ (.tail _ (.head _))))) F.r2.lt)
 clear O2 HVA HON
 go_wp2_with (first | refine F2.load 0 rfl rfl rfl rfl Qb ?_ | refine F2.load 1 rfl rfl rfl rfl Q1 ?_)
 refine (HR.out _ F2.b).mono ?_
 rintro e w3 ⟨hb1,va,rfl,hva⟩
 have F3:=F2.go hb1
 have HA3:=hid (HA2.out.below hb1)
 obtain ⟨b0,b1,b2,b3,b4,b5,b6,b7,b8,b9,rfl,hon⟩:=hva.now.ten
 have HVA:=hid hva
 have HON:=hid hon
 clear hb1 hva hon HA2
 go_upto_region 19 with (refine F3.store 3 rfl rfl rfl rfl rfl (hob.symm ▸ Qb) hob HON.out ?_;intro w4 F4 O2)
 have hgb:=F3.own _ (.tail _ (.tail _ (.tail _ (.head _))))
 have HB4:=hid (HVA.out.only O2 (Nat.le_trans hN hgb) F2.r3.lt)
 have HA4:=hid (HA3.out.only O2 (Nat.le_trans hN hgb) F.r3.lt)
 clear hgb
 clear O2 HVA HON HA3
 have HSM:=hid (Z8 t _ _ w4.heap.size w4 (Nat.le_refl _) HA4.out.now HB4.out.now HT.out)
 obtain ⟨k0,k1,k2,k3,k4,k5,k6,k7,k8,k9⟩:=F4.r2.k10
 obtain ⟨j0,j1,j2,j3,j4,j5,j6,j7,j8,j9⟩:=F4.r3.k10
 go_wp2_with fail
 refine HSM.out.mono ?_
 rintro e w5 ⟨rfl,hb1⟩
 have F5:=F4.go hb1
 clear hb1 k0 k1 k2 k3 k4 k5 k6 k7 k8 k9 j0 j1 j2 j3 j4 j5 j6 j7 j8 j9 HSM HA4 HB4
 go_upto_region 21 with fail
 refine QaZ (by assumption) ?_
 exact hNext.out _ _ _ _ _ _ _ _ _ _ _ _ _ _ _ _ _ _ _ _ _ _ _ _ _ _ _ _ _ _ _ _ _ rfl rfl F5
theorem Qko {A8 BA BV C6 Ch CC CD CE CF CG Bd Be Bf Bg Bh Bi Bj Bk Bl Bm Bn Bo Bp Bq Br Bs Bt Bu Bv Bw Bx By Bz BB BC BD BE BF BG BH BI BJ BK BL BM BN BO BP BQ BR BS BT BU BW BX BY BZ C0 C1 C2 C3 C4 C5 C7 C8 C9 Ca Cb Cc Cd Ce Cf Cg Ci Cj Ck Cl Cm Cn Co Cp Cq Cr Cs Ct Cu Cv Cw Cx Cy Cz CA CB A9 Aa Ab Ac Ad Ae Af Ag Ah Ai Aj Ak Al Am An Ao Ap Aq Ar As At Au Av Aw Ax Ay Az AA AB AC AD AE AF AG AH AI AJ AK AL AM AN AO AP AQ AR AS AT AU AV AW AX AY AZ B0 B1 B2 B3 B4 B5 B6 B7 B8 B9 Ba Bb Bc CH CI CJ CK CL CM CN CO CP CQ CR CS CT CU CV CW CX CY CZ D0 D1 D2 D3 D4 D5 D6 x0 x1 x2 x3 x4 x5 x6 x7 x8 x9 u0 u1 u2 u3 u4 u5 u6 u7 u8 u9 A0 A1 A2 A3 A4 A5 A6 A7:Value} {gs gh ga gb N:Nat} {i q n:Int} {od:Bool} {t:St} {w0 w:World} {oa ob:List Value} (F:Fr w0 [(gs,28,[x0,x1,x2,x3,x4,x5,x6,x7,x8,x9]),(gh,36,[u0,u1,u2,u3,u4,u5,u6,u7,u8,u9,A0,A1,A2,A3,A4,A5,A6,A7]),(ga,28,oa),(gb,28,ob)] w) (hN:N≤w0.heap.size) (hoa:oa.length=10) (hob:ob.length=10) (HL:Hid (∀ W,Below w0.heap.size w0 W→Calls Tryz.prog 12 #[.agg #[x0,x1,x2,x3,x4,x5,x6,x7,x8,x9],.int .i64 i,.agg #[u0,u1,u2,u3,u4,u5,u6,u7,u8,u9,A0,A1,A2,A3,A4,A5,A6,A7]] W fun e w'=>Below W.heap.size W w'∧∃ v',e=.returned (.tuple #[v',.int .i64 n])∧Qv N W.heap.size w' v' t)) (HR:Hid (∀ W,Below w0.heap.size w0 W→Calls Tryz.prog 6 #[.int .u8 121,.agg #[x0,x1,x2,x3,x4,x5,x6,x7,x8,x9],.int .i64 i,.int .i64 i,.bool od,.int .i64 q,.agg #[u0,u1,u2,u3,u4,u5,u6,u7,u8,u9,A0,A1,A2,A3,A4,A5,A6,A7]] W fun e w'=>Below W.heap.size W w'∧∃ v',e=.returned (.tuple #[v',.int .i64 0,.int .i64 n])∧Qv N W.heap.size w' v' t)) (HT:Hid t.fits) (Q:Exit→Act→World→Prop)
  (hNext:Hid (∀ (D7 D8 D9 Da Db Dc Dd De Df Dg Dh Di Dj Dk Dl Dm Dn Do Dp Dq Dr Ds Dt Du Dv Dw Dx Dy Dz DA:Value) (w':World),Below w0.heap.size w0 w'→Q .ret ⟨#[A8,.int .i64 i,.bool od,.int .i64 q,BA,.pointer (some ⟨gs,0,none⟩),BV,C6,Ch,.pointer (some ⟨gh,0,none⟩),.bool true,.pointer (some ⟨ga,0,none⟩),D7,D8,.pointer (some ⟨gb,0,none⟩),D9,Da,Bd,Be,Bf,Bg,Bh,Bi,Bj,Bk,Bl,Bm,Bn,Bo,Bp,Bq,Br,Bs,Bt,Bu,Bv,Bw,Bx,By,Bz,BB,BC,BD,BE,BF,BG,BH,BI,BJ,BK,BL,BM,BN,BO,BP,BQ,BR,BS,BT,BU,BW,BX,BY,BZ,C0,C1,C2,C3,C4,C5,C7,C8,C9,Ca,Cb,Cc,Cd,Ce,Cf,Cg,Ci,Cj,Ck,Cl,Cm,Cn,Co,Cp,Cq,Cr,Cs,Ct,Cu,Cv,Cw,Cx,Cy,Cz,CA,CB,A9,Aa,Ab,Ac,Ad,Ae,Af,Ag,Ah,Ai,Aj,Ak,Al,Am,An,Ao,Ap,Aq,Ar,As,At,Au,Av,Aw,Ax,Ay,Az,AA,AB,AC,AD,AE,AF,AG,AH,AI,AJ,AK,AL,AM,AN,AO,AP,AQ,AR,AS,AT,AU,AV,AW,AX,AY,AZ,B0,B1,B2,B3,B4,B5,B6,B7,B8,B9,Ba,Bb,Bc,Db,Dc,Dd,De,Df,Dg,Dh,Di,Dj,Dk,Dl,Dm,Dn,Do,Dp,Dq,Dr,Ds,Dt,Du,Dv,Dw,Dx,Dy,Dz,DA],[]⟩ w')) :
  Code.wp Tryz.prog (.region 21 ((Tryz.f3.body.bind (Q3 21)).getD #[]) false) (Exit.then (Code.wp Tryz.prog ((Tryz.f3.body.bind (YC 21)).getD .skip) Q) Q) ⟨#[A8,.int .i64 i,.bool od,.int .i64 q,BA,.pointer (some ⟨gs,0,none⟩),BV,C6,Ch,.pointer (some ⟨gh,0,none⟩),CC,.pointer (some ⟨ga,0,none⟩),CD,CE,.pointer (some ⟨gb,0,none⟩),CF,CG,Bd,Be,Bf,Bg,Bh,Bi,Bj,Bk,Bl,Bm,Bn,Bo,Bp,Bq,Br,Bs,Bt,Bu,Bv,Bw,Bx,By,Bz,BB,BC,BD,BE,BF,BG,BH,BI,BJ,BK,BL,BM,BN,BO,BP,BQ,BR,BS,BT,BU,BW,BX,BY,BZ,C0,C1,C2,C3,C4,C5,C7,C8,C9,Ca,Cb,Cc,Cd,Ce,Cf,Cg,Ci,Cj,Ck,Cl,Cm,Cn,Co,Cp,Cq,Cr,Cs,Ct,Cu,Cv,Cw,Cx,Cy,Cz,CA,CB,A9,Aa,Ab,Ac,Ad,Ae,Af,Ag,Ah,Ai,Aj,Ak,Al,Am,An,Ao,Ap,Aq,Ar,As,At,Au,Av,Aw,Ax,Ay,Az,AA,AB,AC,AD,AE,AF,AG,AH,AI,AJ,AK,AL,AM,AN,AO,AP,AQ,AR,AS,AT,AU,AV,AW,AX,AY,AZ,B0,B1,B2,B3,B4,B5,B6,B7,B8,B9,Ba,Bb,Bc,CH,CI,CJ,CK,CL,CM,CN,CO,CP,CQ,CR,CS,CT,CU,CV,CW,CX,CY,CZ,D0,D1,D2,D3,D4,D5,D6],[]⟩ w:=by
 conv=>arg 2;arg 2;whnf
 conv=>arg 3;arg 1;arg 2;whnf
 conv=>arg 4;dsimp only
 have en:(n != n)=false:=by simp
 have eq:(n == n)=true:=by simp
 go_wp2_with (first | refine F.load 0 rfl rfl rfl rfl Qb ?_ | refine F.load 1 rfl rfl rfl rfl Q1 ?_)
 refine (HL.out _ F.b).mono ?_
 rintro e w1 ⟨hb1,va,rfl,hva⟩
 have F1:=F.go hb1
 obtain ⟨a0,a1,a2,a3,a4,a5,a6,a7,a8,a9,rfl,hon⟩:=hva.now.ten
 have HVA:=hid hva
 have HON:=hid hon
 clear hb1 hva hon
 go_upto_region 22 with (refine F1.store 2 rfl rfl rfl rfl rfl (hoa.symm ▸ Qb) hoa HON.out ?_;intro w2 F2 O2)
 have HA2:=hid (HVA.out.only O2 (Nat.le_trans hN (F1.own _ (.tail _ (.tail _ (.head _))))) F.r2.lt)
 clear O2 HVA HON
 go_wp2_with (first | refine F2.load 0 rfl rfl rfl rfl Qb ?_ | refine F2.load 1 rfl rfl rfl rfl Q1 ?_)
 refine (HR.out _ F2.b).mono ?_
 rintro e w3 ⟨hb1,va,rfl,hva⟩
 have F3:=F2.go hb1
 have HA3:=hid (HA2.out.below hb1)
 obtain ⟨b0,b1,b2,b3,b4,b5,b6,b7,b8,b9,rfl,hon⟩:=hva.now.ten
 have HVA:=hid hva
 have HON:=hid hon
 clear hb1 hva hon HA2
 go_upto_region 23 with (refine F3.store 3 rfl rfl rfl rfl rfl (hob.symm ▸ Qb) hob HON.out ?_;intro w4 F4 O2)
 have hgb:=F3.own _ (.tail _ (.tail _ (.tail _ (.head _))))
 have HB4:=hid (HVA.out.only O2 (Nat.le_trans hN hgb) F2.r3.lt)
 have HA4:=hid (HA3.out.only O2 (Nat.le_trans hN hgb) F.r3.lt)
 clear hgb
 clear O2 HVA HON HA3
 have HSM:=hid (Z8 t _ _ w4.heap.size w4 (Nat.le_refl _) HA4.out.now HB4.out.now HT.out)
 obtain ⟨k0,k1,k2,k3,k4,k5,k6,k7,k8,k9⟩:=F4.r2.k10
 obtain ⟨j0,j1,j2,j3,j4,j5,j6,j7,j8,j9⟩:=F4.r3.k10
 go_wp2_with fail
 refine HSM.out.mono ?_
 rintro e w5 ⟨rfl,hb1⟩
 have F5:=F4.go hb1
 clear hb1 k0 k1 k2 k3 k4 k5 k6 k7 k8 k9 j0 j1 j2 j3 j4 j5 j6 j7 j8 j9 HSM HA4 HB4
 go_wp2
 exact hNext.out _ _ _ _ _ _ _ _ _ _ _ _ _ _ _ _ _ _ _ _ _ _ _ _ _ _ _ _ _ _ _ F5.b
end Go.Proofs.YtbgdpfeobklnhaaGreatDoor
