/-
  ConnTells returns true, whatever a state, numbers and what is shown read as.
-/
import Derived.Test.YtooemgkjkngpcaaGreatDoorteRegions
import Derived.Test.YtooemgkjkngpcaaGreatDoorteSt9RT2
import Derived.Test.YtooemgkjkngpcaaGreatDoorteCoTellsL1
import Derived.Test.YtooemgkjkngpcaaGreatDoorteCoTellsL2
import Derived.Test.YtooemgkjkngpcaaGreatDoorteCoTry
import Derived.Test.YtooemgkjkngpcaaGreatDoorteCoAck
import Derived.Test.YtooemgkjkngpcaaGreatDoorteCoConf
import Derived.Test.YtooemgkjkngpcaaGreatDoorteSt9RCon
import Derived.Test.YtooemgkjkngpcaaGreatDoorteStSameF
namespace Go.Proofs.YtooemgkjkngpcaaGreatDoor
set_option maxRecDepth 1000000
set_option maxHeartbeats 8000000
open Go.RowKit
theorem QjI {A0 A1 A2 A3 A4 A5 A6 A7 A8 A9 Aa Ab Ac Aj Ak Al Am An Ao Ap Aq Ar As At Au Av Aw Ax Ay Az B0 B1 B2 B3 B4 B5 B6 B7 B8 B9 Ba Bb Bc Bd Be Bf Bg Bh Bi Bj Bk Bl Bm Bn Bo Bp Bq Br Bs Bt Bu Bv Bw Bx By Bz C0 C1 C2 C3 C4 C5 C6 C7 C8 C9 Ca Cb Cc Cd Ce Cf Cg Ch Ci Cj Ck Cl Cm Cn Co Cp Cq Cr Cs Ct Cu Cv Cw Cx Cy Cz D0 D1 D2 D3 D4 D5 D6 D7 D8 D9 Da Db Dc Dd De Df Dg Dh Di Dj Dk Dl Dm Dn Do Dp Dq Dr Ds Dt Du Dv Dw:Value} {gp gq:Nat} {w1:World} (n m:Int) (Ad Ae Af Ag Ah Ai AA AB AC AD AE AF AG AH AI AJ AK AL AM AN:Value) (HP:Hid (Row w1 gp 28 [Ad,Ae,Af,Ag,Ah,Ai,AA,AB,AC,AD])) (HQ:Hid (Row w1 gq 28 [AE,AF,AG,AH,AI,AJ,AK,AL,AM,AN])) (HSM:Hid (Calls Tryz.prog 17 #[.agg #[Ad,Ae,Af,Ag,Ah,Ai,AA,AB,AC,AD],.agg #[AE,AF,AG,AH,AI,AJ,AK,AL,AM,AN]] w1 fun e w'=>e=.returned (.bool true)∧Below w1.heap.size w1 w')) (Q:Exit→Act→World→Prop)
  (hNext:Hid (∀ (AO AP AQ AR AS AT AU AV AW AX AY AZ BA:Value)  (w':World),Below w1.heap.size w1 w'→Q .normal ⟨#[A0,A1,A2,A3,A4,A5,A6,A7,A8,A9,Aa,Ab,Ac,.pointer (some ⟨gp,0,none⟩),.int .i64 m,.int .i64 n,.pointer (some ⟨gq,0,none⟩),.int .i64 m,.int .i64 n,Aj,Ak,Al,Am,An,Ao,Ap,Aq,Ar,As,At,Au,Av,Aw,Ax,Ay,Az,B0,B1,AO,AP,AQ,AR,AS,AT,AU,AV,AW,AX,AY,AZ,BA,.bool false,Bg,Bh,Bi,Bj,Bk,Bl,Bm,Bn,Bo,Bp,Bq,Br,Bs,Bt,Bu,Bv,Bw,Bx,By,Bz,C0,C1,C2,C3,C4,C5,C6,C7,C8,C9,Ca,Cb,Cc,Cd,Ce,Cf,Cg,Ch,Ci,Cj,Ck,Cl,Cm,Cn,Co,Cp,Cq,Cr,Cs,Ct,Cu,Cv,Cw,Cx,Cy,Cz,D0,D1,D2,D3,D4,D5,D6,D7,D8,D9,Da,Db,Dc,Dd,De,Df,Dg,Dh,Di,Dj,Dk,Dl,Dm,Dn,Do,Dp,Dq,Dr,Ds,Dt,Du,Dv,Dw],[]⟩ w')) :
  Code.wp Tryz.prog (.region 3 ((Tryz.f4.body.bind (Ja 3)).getD #[]) false) Q ⟨#[A0,A1,A2,A3,A4,A5,A6,A7,A8,A9,Aa,Ab,Ac,.pointer (some ⟨gp,0,none⟩),.int .i64 m,.int .i64 n,.pointer (some ⟨gq,0,none⟩),.int .i64 m,.int .i64 n,Aj,Ak,Al,Am,An,Ao,Ap,Aq,Ar,As,At,Au,Av,Aw,Ax,Ay,Az,B0,B1,B2,B3,B4,B5,B6,B7,B8,B9,Ba,Bb,Bc,Bd,Be,Bf,Bg,Bh,Bi,Bj,Bk,Bl,Bm,Bn,Bo,Bp,Bq,Br,Bs,Bt,Bu,Bv,Bw,Bx,By,Bz,C0,C1,C2,C3,C4,C5,C6,C7,C8,C9,Ca,Cb,Cc,Cd,Ce,Cf,Cg,Ch,Ci,Cj,Ck,Cl,Cm,Cn,Co,Cp,Cq,Cr,Cs,Ct,Cu,Cv,Cw,Cx,Cy,Cz,D0,D1,D2,D3,D4,D5,D6,D7,D8,D9,Da,Db,Dc,Dd,De,Df,Dg,Dh,Di,Dj,Dk,Dl,Dm,Dn,Do,Dp,Dq,Dr,Ds,Dt,Du,Dv,Dw],[]⟩ w1:=by
 conv=>arg 2;arg 2;whnf
 conv=>arg 4;dsimp only
 obtain ⟨k0,k1,k2,k3,k4,k5,k6,k7,k8,k9⟩:=HP.out.c10
 obtain ⟨h0,h1,h2,h3,h4,h5,h6,h7,h8,h9⟩:=HQ.out.c10
 have en:(n != n)=false:=by simp
 have eq:(n == n)=true:=by simp
 have em:(m != m)=false:=by simp
 go_wp2_with fail
 refine HSM.out.mono ?_
 rintro e w2 ⟨rfl,hb2⟩
 have HB2:=hid hb2
 clear hb2 k0 k1 k2 k3 k4 k5 k6 k7 k8 k9 h0 h1 h2 h3 h4 h5 h6 h7 h8 h9
 go_wp2
 apply hNext.out
 exact HB2.out
theorem Qjn {A0 A1 A2 A3 A4 A5 A6 A7 A8 A9 Aa Ab Ac Aj Ak Al Am An Ao Ap Aq Ar As At Au Av Aw Ax Ay Az B0 B1 B2 B3 B4 B5 B6 B7 B8 B9 Ba Bb Bc Bd Be Bf Bg Bh Bi Bj Bk Bl Bm Bn Bo Bp Bq Br Bs Bt Bu Bv Bw Bx By Bz C0 C1 C2 C3 C4 C5 C6 C7 C8 C9 Ca Cb Cc Cd Ce Cf Cg Ch Ci Cj Ck Cl Cm Cn Co Cp Cq Cr Cs Ct Cu Cv Cw Cx Cy Cz D0 D1 D2 D3 D4 D5 D6 D7 D8 D9 Da Db Dc Dd De Df Dg Dh Di Dj Dk Dl Dm Dn Do Dp Dq Dr Ds Dt Du Dv Dw:Value} {gp gq:Nat} {w1:World} (n m:Int) (Ad Ae Af Ag Ah Ai AA AB AC AD AE AF AG AH AI AJ AK AL AM AN:Value) (HP:Hid (Row w1 gp 28 [Ad,Ae,Af,Ag,Ah,Ai,AA,AB,AC,AD])) (HQ:Hid (Row w1 gq 28 [AE,AF,AG,AH,AI,AJ,AK,AL,AM,AN])) (HSM:Hid (Calls Tryz.prog 17 #[.agg #[Ad,Ae,Af,Ag,Ah,Ai,AA,AB,AC,AD],.agg #[AE,AF,AG,AH,AI,AJ,AK,AL,AM,AN]] w1 fun e w'=>e=.returned (.bool true)∧Below w1.heap.size w1 w')) (Q:Exit→Act→World→Prop)
  (hNext:Hid (∀ (AO AP AQ AR AS AT AU AV AW AX AY AZ BA:Value)  (w':World),Below w1.heap.size w1 w'→Q .normal ⟨#[A0,A1,A2,A3,A4,A5,A6,A7,A8,A9,Aa,Ab,Ac,.pointer (some ⟨gp,0,none⟩),.int .i64 m,.int .i64 n,.pointer (some ⟨gq,0,none⟩),.int .i64 m,.int .i64 n,Aj,Ak,Al,Am,An,Ao,Ap,Aq,Ar,As,At,Au,Av,Aw,Ax,Ay,Az,B0,B1,B2,B3,B4,B5,B6,B7,B8,B9,Ba,Bb,Bc,Bd,Be,Bf,Bg,Bh,Bi,Bj,Bk,Bl,Bm,Bn,Bo,Bp,Bq,Br,Bs,Bt,Bu,Bv,Bw,Bx,By,Bz,C0,AO,AP,AQ,AR,AS,AT,AU,AV,AW,AX,AY,AZ,BA,.bool false,Cf,Cg,Ch,Ci,Cj,Ck,Cl,Cm,Cn,Co,Cp,Cq,Cr,Cs,Ct,Cu,Cv,Cw,Cx,Cy,Cz,D0,D1,D2,D3,D4,D5,D6,D7,D8,D9,Da,Db,Dc,Dd,De,Df,Dg,Dh,Di,Dj,Dk,Dl,Dm,Dn,Do,Dp,Dq,Dr,Ds,Dt,Du,Dv,Dw],[]⟩ w')) :
  Code.wp Tryz.prog (.region 7 ((Tryz.f4.body.bind (Ja 7)).getD #[]) false) Q ⟨#[A0,A1,A2,A3,A4,A5,A6,A7,A8,A9,Aa,Ab,Ac,.pointer (some ⟨gp,0,none⟩),.int .i64 m,.int .i64 n,.pointer (some ⟨gq,0,none⟩),.int .i64 m,.int .i64 n,Aj,Ak,Al,Am,An,Ao,Ap,Aq,Ar,As,At,Au,Av,Aw,Ax,Ay,Az,B0,B1,B2,B3,B4,B5,B6,B7,B8,B9,Ba,Bb,Bc,Bd,Be,Bf,Bg,Bh,Bi,Bj,Bk,Bl,Bm,Bn,Bo,Bp,Bq,Br,Bs,Bt,Bu,Bv,Bw,Bx,By,Bz,C0,C1,C2,C3,C4,C5,C6,C7,C8,C9,Ca,Cb,Cc,Cd,Ce,Cf,Cg,Ch,Ci,Cj,Ck,Cl,Cm,Cn,Co,Cp,Cq,Cr,Cs,Ct,Cu,Cv,Cw,Cx,Cy,Cz,D0,D1,D2,D3,D4,D5,D6,D7,D8,D9,Da,Db,Dc,Dd,De,Df,Dg,Dh,Di,Dj,Dk,Dl,Dm,Dn,Do,Dp,Dq,Dr,Ds,Dt,Du,Dv,Dw],[]⟩ w1:=by
 conv=>arg 2;arg 2;whnf
 conv=>arg 4;dsimp only
 obtain ⟨k0,k1,k2,k3,k4,k5,k6,k7,k8,k9⟩:=HP.out.c10
 obtain ⟨h0,h1,h2,h3,h4,h5,h6,h7,h8,h9⟩:=HQ.out.c10
 have en:(n != n)=false:=by simp
 have eq:(n == n)=true:=by simp
 have em:(m != m)=false:=by simp
 go_wp2_with fail
 refine HSM.out.mono ?_
 rintro e w2 ⟨rfl,hb2⟩
 have HB2:=hid hb2
 clear hb2 k0 k1 k2 k3 k4 k5 k6 k7 k8 k9 h0 h1 h2 h3 h4 h5 h6 h7 h8 h9
 go_wp2
 apply hNext.out
 exact HB2.out
theorem Qid {A0 A1 A2 A3 A4 A5 A6 A7 A8 A9 Aa Ab Ac Ae Ah Aj Ak Al Am An Ao Ap Aq Ar As At Au Av Aw Ax Ay Az B0 B1 B2 B3 B4 B5 B6 B7 B8 B9 Ba Bb Bc Bd Be Bf Bg Bh Bi Bj Bk Bl Bm Bn Bo Bp Bq Br Bs Bt Bu Bv Bw Bx By Bz C0 C1 C2 C3 C4 C5 C6 C7 C8 C9 Ca Cb Cc Cd Ce Cf Cg Ch Ci Cj Ck Cl Cm Cn Co Cp Cq Cr Cs Ct Cu Cv Cw Cx Cy Cz D0 D1 D2 D3 D4 D5 D6 D7 D8 D9 Da Db Dc Dd De Df Dg Dh Di Dj Dk Dl Dm Dn Do Dp Dq Dr Ds Dt Du Dv Dw:Value} {gp gq:Nat} {w1:World} (n:Int) (Ad Af Ag Ai AA AB AC AD AE AF AG AH AI AJ AK AL AM AN AO AP:Value) (HP:Hid (Row w1 gp 28 [Ad,Af,Ag,Ai,AA,AB,AC,AD,AE,AF])) (HQ:Hid (Row w1 gq 28 [AG,AH,AI,AJ,AK,AL,AM,AN,AO,AP])) (HSM:Hid (Calls Tryz.prog 17 #[.agg #[Ad,Af,Ag,Ai,AA,AB,AC,AD,AE,AF],.agg #[AG,AH,AI,AJ,AK,AL,AM,AN,AO,AP]] w1 fun e w'=>e=.returned (.bool true)∧Below w1.heap.size w1 w')) (Q:Exit→Act→World→Prop)
  (hNext:Hid (∀ (AQ AR AS AT AU AV AW AX:Value)  (w':World),Below w1.heap.size w1 w'→Q .normal ⟨#[A0,A1,A2,A3,A4,A5,A6,A7,A8,A9,Aa,Ab,Ac,.pointer (some ⟨gp,0,none⟩),Ae,.int .i64 n,.pointer (some ⟨gq,0,none⟩),Ah,.int .i64 n,Aj,Ak,Al,Am,An,Ao,Ap,Aq,Ar,As,At,Au,Av,Aw,Ax,Ay,Az,B0,B1,B2,B3,B4,B5,B6,B7,B8,B9,Ba,Bb,Bc,Bd,Be,Bf,Bg,Bh,Bi,Bj,Bk,Bl,Bm,Bn,Bo,Bp,Bq,Br,Bs,Bt,Bu,Bv,Bw,Bx,By,Bz,C0,C1,C2,C3,C4,C5,C6,C7,C8,C9,Ca,Cb,Cc,Cd,Ce,Cf,Cg,Ch,Ci,Cj,Ck,Cl,Cm,Cn,Co,Cp,Cq,Cr,Cs,Ct,Cu,Cv,Cw,Cx,AQ,AR,AS,AT,AU,AV,AW,AX,.bool false,D7,D8,D9,Da,Db,Dc,Dd,De,Df,Dg,Dh,Di,Dj,Dk,Dl,Dm,Dn,Do,Dp,Dq,Dr,Ds,Dt,Du,Dv,Dw],[]⟩ w')) :
  Code.wp Tryz.prog (.region 11 ((Tryz.f4.body.bind (Ja 11)).getD #[]) false) Q ⟨#[A0,A1,A2,A3,A4,A5,A6,A7,A8,A9,Aa,Ab,Ac,.pointer (some ⟨gp,0,none⟩),Ae,.int .i64 n,.pointer (some ⟨gq,0,none⟩),Ah,.int .i64 n,Aj,Ak,Al,Am,An,Ao,Ap,Aq,Ar,As,At,Au,Av,Aw,Ax,Ay,Az,B0,B1,B2,B3,B4,B5,B6,B7,B8,B9,Ba,Bb,Bc,Bd,Be,Bf,Bg,Bh,Bi,Bj,Bk,Bl,Bm,Bn,Bo,Bp,Bq,Br,Bs,Bt,Bu,Bv,Bw,Bx,By,Bz,C0,C1,C2,C3,C4,C5,C6,C7,C8,C9,Ca,Cb,Cc,Cd,Ce,Cf,Cg,Ch,Ci,Cj,Ck,Cl,Cm,Cn,Co,Cp,Cq,Cr,Cs,Ct,Cu,Cv,Cw,Cx,Cy,Cz,D0,D1,D2,D3,D4,D5,D6,D7,D8,D9,Da,Db,Dc,Dd,De,Df,Dg,Dh,Di,Dj,Dk,Dl,Dm,Dn,Do,Dp,Dq,Dr,Ds,Dt,Du,Dv,Dw],[]⟩ w1:=by
 conv=>arg 2;arg 2;whnf
 conv=>arg 4;dsimp only
 obtain ⟨k0,k1,k2,k3,k4,k5,k6,k7,k8,k9⟩:=HP.out.c10
 obtain ⟨h0,h1,h2,h3,h4,h5,h6,h7,h8,h9⟩:=HQ.out.c10
 have en:(n != n)=false:=by simp
 have eq:(n == n)=true:=by simp
 go_wp2_with fail
 refine HSM.out.mono ?_
 rintro e w2 ⟨rfl,hb2⟩
 have HB2:=hid hb2
 clear hb2 k0 k1 k2 k3 k4 k5 k6 k7 k8 k9 h0 h1 h2 h3 h4 h5 h6 h7 h8 h9
 go_wp2
 apply hNext.out
 exact HB2.out
theorem QiX {A0 A1 A2 A3 A4 A5 A6 A7 A8 A9 Aa Ab Ac Ae Ah Aj Ak Al Am An Ao Ap Aq Ar As At Au Av Aw Ax Ay Az B0 B1 B2 B3 B4 B5 B6 B7 B8 B9 Ba Bb Bc Bd Be Bf Bg Bh Bi Bj Bk Bl Bm Bn Bo Bp Bq Br Bs Bt Bu Bv Bw Bx By Bz C0 C1 C2 C3 C4 C5 C6 C7 C8 C9 Ca Cb Cc Cd Ce Cf Cg Ch Ci Cj Ck Cl Cm Cn Co Cp Cq Cr Cs Ct Cu Cv Cw Cx Cy Cz D0 D1 D2 D3 D4 D5 D6 D7 D8 D9 Da Db Dc Dd De Df Dg Dh Di Dj Dk Dl Dm Dn Do Dp Dq Dr Ds Dt Du Dv Dw:Value} {gp gq:Nat} {w1:World} (n:Int) (Ad Af Ag Ai AA AB AC AD AE AF AG AH AI AJ AK AL AM AN AO AP:Value) (HP:Hid (Row w1 gp 28 [Ad,Af,Ag,Ai,AA,AB,AC,AD,AE,AF])) (HQ:Hid (Row w1 gq 28 [AG,AH,AI,AJ,AK,AL,AM,AN,AO,AP])) (HSM:Hid (Calls Tryz.prog 17 #[.agg #[Ad,Af,Ag,Ai,AA,AB,AC,AD,AE,AF],.agg #[AG,AH,AI,AJ,AK,AL,AM,AN,AO,AP]] w1 fun e w'=>e=.returned (.bool true)∧Below w1.heap.size w1 w')) (Q:Exit→Act→World→Prop)
  (hNext:Hid (∀ (AQ AR AS AT AU AV AW AX:Value)  (w':World),Below w1.heap.size w1 w'→Q .normal ⟨#[A0,A1,A2,A3,A4,A5,A6,A7,A8,A9,Aa,Ab,.bool true,.pointer (some ⟨gp,0,none⟩),Ae,.int .i64 n,.pointer (some ⟨gq,0,none⟩),Ah,.int .i64 n,Aj,Ak,Al,Am,An,Ao,Ap,Aq,Ar,As,At,Au,Av,Aw,Ax,Ay,Az,B0,B1,B2,B3,B4,B5,B6,B7,B8,B9,Ba,Bb,Bc,Bd,Be,Bf,Bg,Bh,Bi,Bj,Bk,Bl,Bm,Bn,Bo,Bp,Bq,Br,Bs,Bt,Bu,Bv,Bw,Bx,By,Bz,C0,C1,C2,C3,C4,C5,C6,C7,C8,C9,Ca,Cb,Cc,Cd,Ce,Cf,Cg,Ch,Ci,Cj,Ck,Cl,Cm,Cn,Co,Cp,Cq,Cr,Cs,Ct,Cu,Cv,Cw,Cx,Cy,Cz,D0,D1,D2,D3,D4,D5,D6,D7,D8,D9,Da,Db,Dc,Dd,De,Df,Dg,Dh,Di,Dj,Dk,Dl,Dm,Dn,Do,AQ,AR,AS,AT,AU,AV,AW,AX],[]⟩ w')) :
  Code.wp Tryz.prog (.region 15 ((Tryz.f4.body.bind (Ja 15)).getD #[]) false) Q ⟨#[A0,A1,A2,A3,A4,A5,A6,A7,A8,A9,Aa,Ab,Ac,.pointer (some ⟨gp,0,none⟩),Ae,.int .i64 n,.pointer (some ⟨gq,0,none⟩),Ah,.int .i64 n,Aj,Ak,Al,Am,An,Ao,Ap,Aq,Ar,As,At,Au,Av,Aw,Ax,Ay,Az,B0,B1,B2,B3,B4,B5,B6,B7,B8,B9,Ba,Bb,Bc,Bd,Be,Bf,Bg,Bh,Bi,Bj,Bk,Bl,Bm,Bn,Bo,Bp,Bq,Br,Bs,Bt,Bu,Bv,Bw,Bx,By,Bz,C0,C1,C2,C3,C4,C5,C6,C7,C8,C9,Ca,Cb,Cc,Cd,Ce,Cf,Cg,Ch,Ci,Cj,Ck,Cl,Cm,Cn,Co,Cp,Cq,Cr,Cs,Ct,Cu,Cv,Cw,Cx,Cy,Cz,D0,D1,D2,D3,D4,D5,D6,D7,D8,D9,Da,Db,Dc,Dd,De,Df,Dg,Dh,Di,Dj,Dk,Dl,Dm,Dn,Do,Dp,Dq,Dr,Ds,Dt,Du,Dv,Dw],[]⟩ w1:=by
 conv=>arg 2;arg 2;whnf
 conv=>arg 4;dsimp only
 obtain ⟨k0,k1,k2,k3,k4,k5,k6,k7,k8,k9⟩:=HP.out.c10
 obtain ⟨h0,h1,h2,h3,h4,h5,h6,h7,h8,h9⟩:=HQ.out.c10
 have en:(n != n)=false:=by simp
 have eq:(n == n)=true:=by simp
 go_wp2_with fail
 refine HSM.out.mono ?_
 rintro e w2 ⟨rfl,hb2⟩
 have HB2:=hid hb2
 clear hb2 k0 k1 k2 k3 k4 k5 k6 k7 k8 k9 h0 h1 h2 h3 h4 h5 h6 h7 h8 h9
 go_wp2
 apply hNext.out
 exact HB2.out
theorem Qcl {s:St} {l:List Cn} (hf:s.fits) (hl:l.length<2305843009213693952):({ s with conns:=l }:St).fits:=⟨hf.1,hf.2.1,hl,hf.2.2.2⟩
theorem Qdy:St.none.fits:=⟨by decide,⟨by decide,fun _ h=>by cases h⟩,by decide,by decide,⟨by decide,fun _ h=>by cases h⟩,⟨by decide,fun _ h=>by cases h⟩,⟨by decide,fun _ h=>by cases h⟩,by decide,fun _ h=>by cases h⟩
theorem QdC {s:St} {n:Int} {c:Cn} (hf:s.fits) (h:n=0→s.conns.length≤100):(Zb s n c).fits:=by
 unfold Zb
 split
 ·rename_i h0
  have:=h h0
  exact Qcl hf (by simp;omega)
 ·exact Qdy
theorem Qdr {s:St} {n i:Int} {c:Cn} (hf:s.fits):(YZ s n i c).fits:=by
 unfold YZ
 split
 ·exact Qcl hf (by rw [List.length_set];exact hf.2.2.1)
 ·exact Qdy
theorem Qeo {s:St} {c o:Int} (h:Ju s c o=0):QQ s c=0:=by
 unfold Ju at h
 split at h
 ·rename_i h1;exact absurd h h1
 ·rename_i h1;simpa using h1
theorem Qgu {s:St} {c o q z:Int} (h:Jv s c o q z=0):QQ s c=0:=by
 unfold Jv at h
 split at h
 ·rename_i h1;exact absurd h h1
 ·rename_i h1;simpa using h1
theorem QfK {s:St} {c o:Int} (hf:s.fits):(Ym s c o).fits:=QdC hf fun h=>(Qr (Z2 (Qeo h))).2.1
theorem Qho {s:St} {c o q z:Int} (hf:s.fits):(Yt s c o q z).fits:=QdC hf fun h=>(Qr (Z2 (Qgu h))).2.1
theorem Qhi {s:St} {i q z:Int} (hf:s.fits):(Zg s i q z).fits:=Qdr hf
theorem Qgj {s:St} {i z:Int} (hf:s.fits):(JP s i z).fits:=Qdr hf
theorem Row.apart {w w':World} {g x:Nat} {t:TypeId} {cs:List Value} (h:Row w g t cs) (hg:w.grownBy w' (some x)) (hne:g≠x):Row w' g t cs :=
 (hg.block g h.lt (fun e=>hne (by injection e))).trans h
theorem Qdp (s:St) (v hv2:Value) (N:Nat) (w:World) (i c o q:Int) (h:Sh) (hpow:YG w) (htab:Qt w) (hN:N≤w.heap.size) (hv:StV w N v s) (hh:ShV w N hv2 h) (hfit:s.fits) (hhf:h.fits) :
  Calls Tryz.prog 4 #[v,.int .i64 i,.int .i64 c,.int .i64 o,.int .i64 q,hv2] w fun e w'=>e=.returned (.bool true)∧Below w.heap.size w w':=by
 obtain ⟨zt,hzt⟩:∃ z,QaF s c o q h z:=by unfold QaF QZ;exact JU.some _ _ _ _
 obtain ⟨za,hza⟩:∃ z,Qaa s i q h z:=by unfold Qaa QZ;exact JU.some _ _ _ _
 obtain ⟨zc,hzc⟩:∃ z,Zm s i h z:=by unfold Zm QZ;exact JU.some _ _ _ _
 have HIN:=hid (fun wx (hx:Below w.heap.size w wx)=>QiU s v N wx c o (hv.below (hx.mono hN)) (Nat.le_trans hN hx.size) hfit)
 have HRI:=hid (fun wx (hx:Below w.heap.size w wx)=>QeY s v hv2 N wx i c o q h (hv.below (hx.mono hN)) (hh.below (hx.mono hN)) (Nat.le_trans hN hx.size) hfit)
 have HTR:=hid (fun wx (hx:Below w.heap.size w wx)=>Qjo s v hv2 N wx c o q zt h (hv.below (hx.mono hN)) (hh.below (hx.mono hN)) (Nat.le_trans hN hx.size) hfit hhf (htab.past hx) (hpow.below hx) hzt)
 have HRT:=hid (fun wx (hx:Below w.heap.size w wx)=>QfT s v hv2 N wx i c o q h (hv.below (hx.mono hN)) (hh.below (hx.mono hN)) (Nat.le_trans hN hx.size) hfit zt hhf (htab.past hx) hzt)
 have HAK:=hid (fun wx (hx:Below w.heap.size w wx)=>QjX s v hv2 N wx i q za h (hv.below (hx.mono hN)) (hh.below (hx.mono hN)) (Nat.le_trans hN hx.size) hfit hhf (htab.past hx) (hpow.below hx) hza)
 have HRA:=hid (fun wx (hx:Below w.heap.size w wx)=>Qfy s v hv2 N wx i c o q h (hv.below (hx.mono hN)) (hh.below (hx.mono hN)) (Nat.le_trans hN hx.size) hfit za hhf (htab.past hx) hza)
 have HCF:=hid (fun wx (hx:Below w.heap.size w wx)=>QiF s v hv2 N wx i zc h (hv.below (hx.mono hN)) (hh.below (hx.mono hN)) (Nat.le_trans hN hx.size) hfit hhf (htab.past hx) (hpow.below hx) hzc)
 have HRC:=hid (fun wx (hx:Below w.heap.size w wx)=>Qes s v hv2 N wx i c o q h (hv.below (hx.mono hN)) (hh.below (hx.mono hN)) (Nat.le_trans hN hx.size) hfit zc hhf (htab.past hx) hzc)
 have HFi:=hid (show (Ym s c o).fits from QfK hfit)
 have HFt:=hid (show (Yt s c o q zt).fits from Qho hfit)
 have HFa:=hid (show (Zg s i q za).fits from Qhi hfit)
 have HFc:=hid (show (JP s i zc).fits from Qgj hfit)
 obtain ⟨o1,c1,o2,c2,o3,c3,o4,c4,o5,c5,o6,c6,o7,c7,rfl,hm⟩:=hv.open
 obtain ⟨q1,e1,q2,e2,q3,e3,r1,s1,r2,s2,r3,s3,r4,s4,r5,s5,r6,s6,rfl,-⟩:=hh.open
 obtain ⟨w0,hw0,hb0,HA0,HH0,hsz0⟩:=QjB w 28 [.string s.name,.int .i64 s.height,.int .i64 s.time,.slice o1 s.clients.length c1,.slice o2 s.conns.length c2,.slice o3 s.chans.length c3,.slice o4 s.sent.length c4,.slice o5 s.got.length c5,.slice o6 s.acks.length c6,.slice o7 s.purses.length c7] 46 [.int .i64 h.height,.int .i64 h.prf.index,.int .i64 h.prf.size,.slice q1 h.prf.key.length e1,.slice q2 h.prf.val.length e2,.slice q3 h.prf.path.length e3,.bool h.gap.hasL,.bool h.gap.hasR,.int .i64 h.gap.left.index,.int .i64 h.gap.left.size,.slice r1 h.gap.left.key.length s1,.slice r2 h.gap.left.val.length s2,.slice r3 h.gap.left.path.length s3,.int .i64 h.gap.right.index,.int .i64 h.gap.right.size,.slice r4 h.gap.right.key.length s4,.slice r5 h.gap.right.val.length s5,.slice r6 h.gap.right.path.length s6]
 have HB0:=hid hb0
 have HW0:=hid hw0
 clear hv hm hh hfit hhf htab hpow hb0 hw0 hzt hza hzc
 obtain ⟨ti,hti⟩:∃ t:St,Ym s c o=t:=⟨_,rfl⟩
 rw [hti] at HFi HIN HRI
 clear hti
 obtain ⟨ni,hni⟩:∃ n:Int,Ju s c o=n:=⟨_,rfl⟩
 obtain ⟨mi,hmi⟩:∃ n:Int,JD s (Ju s c o)=n:=⟨_,rfl⟩
 rw [hmi,hni] at HIN HRI
 clear hmi hni
 obtain ⟨tt,htt⟩:∃ t:St,Yt s c o q zt=t:=⟨_,rfl⟩
 rw [htt] at HFt HTR HRT
 clear htt
 obtain ⟨nt,hnt⟩:∃ n:Int,Jv s c o q zt=n:=⟨_,rfl⟩
 obtain ⟨mt,hmt⟩:∃ n:Int,JD s (Jv s c o q zt)=n:=⟨_,rfl⟩
 rw [hmt,hnt] at HTR HRT
 clear hmt hnt
 obtain ⟨ta,hta⟩:∃ t:St,Zg s i q za=t:=⟨_,rfl⟩
 rw [hta] at HFa HAK HRA
 clear hta
 obtain ⟨na,hna⟩:∃ n:Int,Ze s i q za=n:=⟨_,rfl⟩
 rw [hna] at HAK HRA
 clear hna
 obtain ⟨tc,htc⟩:∃ t:St,JP s i zc=t:=⟨_,rfl⟩
 rw [htc] at HFc HCF HRC
 clear htc
 obtain ⟨nc,hnc⟩:∃ n:Int,JR s i zc=n:=⟨_,rfl⟩
 rw [hnc] at HCF HRC
 clear hnc
 go_enter Tryz.func4,Tryz.ntmps4
 go_upto_region 1 with fail
 rw [HW0.out]
 refine QjK ti ni mi i c o q _ _ _ _ _ _ _ _ _ _ HA0 (hid (HIN.out _ HB0.out)) _ (hid ?_)
 intro u19_1 u20_1 u21_1 u22_1 u23_1 u24_1 u25_1 u26_1 gp pp0_1 pp1_1 pp2_1 pp3_1 pp4_1 pp5_1 pp6_1 pp7_1 pp8_1 pp9_1 w1 hb1 hg1 hr1 ho1 hh1
 have HB1:=hgo HB0 hb1
 have HA1:=rgo HA0 hb1
 have HH1:=rgo HH0 hb1
 have HP1:=hid hr1
 have HV1:=hid hh1
 have hgp:w.heap.size+2≤gp:=by omega
 clear hb1 hg1 hr1 ho1 hh1
 go_upto_region 2 with fail
 refine Qjx ti ni mi i c o q _ _ _ _ _ _ _ _ _ _ _ _ _ _ _ _ _ _ _ _ _ _ _ _ _ _ _ _ HA1 HH1 (hid (HRI.out _ HB1.out)) _ (hid ?_)
 intro u27_2 u28_2 u29_2 u30_2 u31_2 u32_2 u33_2 u34_2 u35_2 u36_2 u37_2 gq qq0_2 qq1_2 qq2_2 qq3_2 qq4_2 qq5_2 qq6_2 qq7_2 qq8_2 qq9_2 w2 hb2 hg2 hr2 ho2 hh2
 have HB2:=hgo HB1 hb2
 have HA2:=rgo HA1 hb2
 have HH2:=rgo HH1 hb2
 have HP2:=rgo HP1 hb2
 have HV2:=hid (HV1.out.below hb2)
 have HQ2:=hid hr2
 have HU2:=hid hh2
 have hgq:gp<gq:=Nat.lt_of_lt_of_le HP1.out.lt hg2
 clear hb2 hg2 hr2 ho2 hh2
 go_upto_region 3 with fail
 refine QjI ni mi _ _ _ _ _ _ _ _ _ _ _ _ _ _ _ _ _ _ _ _ HP2 HQ2 (hid (Qbu ti _ _ w2.heap.size w2 (Nat.le_refl _) HV2.out.now HU2.out.now HFi.out)) _ (hid ?_)
 intro u38_3 u39_3 u40_3 u41_3 u42_3 u43_3 u44_3 u45_3 u46_3 u47_3 u48_3 u49_3 u50_3 w3 hb3
 have HB3:=hgo HB2 hb3
 have HA3:=rgo HA2 hb3
 have HH3:=rgo HH2 hb3
 have HP3:=rgo HP2 hb3
 have HQ3:=rgo HQ2 hb3
 clear hb3
 go_upto_region 5 with fail
 have hlp3:=HP3.out.lt
 have hlq3:=HQ3.out.lt
 refine Qjv tt nt mt i c o q _ _ _ _ _ _ _ _ _ _ _ _ _ _ _ _ _ _ _ _ _ _ _ _ _ _ _ _ _ _ _ _ _ _ _ _ _ _ HA3 HH3 (hid (HTR.out _ HB3.out)) HP3 (by omega) _ (hid ?_)
 intro u52_4 u53_4 u54_4 u55_4 u56_4 u57_4 u58_4 u59_4 u60_4 u61_4 pp0_4 pp1_4 pp2_4 pp3_4 pp4_4 pp5_4 pp6_4 pp7_4 pp8_4 pp9_4 w4 hg4 hr4 hh4
 have HB4:=hid (HB3.out.grown hg4 HB3.out.size (fun x hx=>by cases hx;omega))
 have HA4:=hid (HA3.out.apart hg4 (by omega))
 have HH4:=hid (HH3.out.apart hg4 (by omega))
 have HQ4:=hid (HQ3.out.apart hg4 (by omega))
 have HP4:=hid hr4
 have HV4:=hid hh4
 have hlp4:=HP4.out.lt
 have hlq4:=HQ4.out.lt
 clear hg4 hr4 hh4
 go_upto_region 6 with fail
 refine QjJ tt nt mt i c o q _ _ _ _ _ _ _ _ _ _ _ _ _ _ _ _ _ _ _ _ _ _ _ _ _ _ _ _ _ _ _ _ _ _ _ _ _ _ HA4 HH4 (hid (HRT.out _ HB4.out)) HQ4 (by omega) _ (hid ?_)
 intro u62_5 u63_5 u64_5 u65_5 u66_5 u67_5 u68_5 u69_5 u70_5 u71_5 u72_5 qq0_5 qq1_5 qq2_5 qq3_5 qq4_5 qq5_5 qq6_5 qq7_5 qq8_5 qq9_5 w5 hg5 hr5 hh5
 have HB5:=hid (HB4.out.grown hg5 HB4.out.size (fun x hx=>by cases hx;omega))
 have HA5:=hid (HA4.out.apart hg5 (by omega))
 have HH5:=hid (HH4.out.apart hg5 (by omega))
 have HP5:=hid (HP4.out.apart hg5 (by omega))
 have HV5:=hid (HV4.out.on (Zo hg5) (fun b hlt hr=>hg5.block b hlt (by simp;omega)))
 have HQ5:=hid hr5
 have HU5:=hid hh5
 clear hg5 hr5 hh5 hlp3 hlp4 hlq3 hlq4
 go_upto_region 7 with fail
 refine Qjn nt mt _ _ _ _ _ _ _ _ _ _ _ _ _ _ _ _ _ _ _ _ HP5 HQ5 (hid (Qbu tt _ _ w5.heap.size w5 (Nat.le_refl _) HV5.out.now HU5.out.now HFt.out)) _ (hid ?_)
 intro u73_6 u74_6 u75_6 u76_6 u77_6 u78_6 u79_6 u80_6 u81_6 u82_6 u83_6 u84_6 u85_6 w6 hb6
 have HB6:=hgo HB5 hb6
 have HA6:=rgo HA5 hb6
 have HH6:=rgo HH5 hb6
 have HP6:=rgo HP5 hb6
 have HQ6:=rgo HQ5 hb6
 clear hb6
 go_upto_region 9 with fail
 have hlp6:=HP6.out.lt
 have hlq6:=HQ6.out.lt
 refine QjE ta na i c o q _ _ _ _ _ _ _ _ _ _ _ _ _ _ _ _ _ _ _ _ _ _ _ _ _ _ _ _ _ _ _ _ _ _ _ _ _ _ HA6 HH6 (hid (HAK.out _ HB6.out)) HP6 (by omega) _ (hid ?_)
 intro u87_7 u88_7 u89_7 u90_7 u91_7 u92_7 u93_7 u94_7 pp0_7 pp1_7 pp2_7 pp3_7 pp4_7 pp5_7 pp6_7 pp7_7 pp8_7 pp9_7 w7 hg7 hr7 hh7
 have HB7:=hid (HB6.out.grown hg7 HB6.out.size (fun x hx=>by cases hx;omega))
 have HA7:=hid (HA6.out.apart hg7 (by omega))
 have HH7:=hid (HH6.out.apart hg7 (by omega))
 have HQ7:=hid (HQ6.out.apart hg7 (by omega))
 have HP7:=hid hr7
 have HV7:=hid hh7
 have hlp7:=HP7.out.lt
 have hlq7:=HQ7.out.lt
 clear hg7 hr7 hh7
 go_upto_region 10 with fail
 refine Qi4 ta na 0 i c o q _ _ _ _ _ _ _ _ _ _ _ _ _ _ _ _ _ _ _ _ _ _ _ _ _ _ _ _ _ _ _ _ _ _ _ _ _ _ HA7 HH7 (hid (HRA.out _ HB7.out)) HQ7 (by omega) _ (hid ?_)
 intro u95_8 u96_8 u97_8 u98_8 u99_8 u100_8 u101_8 u102_8 u103_8 u104_8 u105_8 qq0_8 qq1_8 qq2_8 qq3_8 qq4_8 qq5_8 qq6_8 qq7_8 qq8_8 qq9_8 w8 hg8 hr8 hh8
 have HB8:=hid (HB7.out.grown hg8 HB7.out.size (fun x hx=>by cases hx;omega))
 have HA8:=hid (HA7.out.apart hg8 (by omega))
 have HH8:=hid (HH7.out.apart hg8 (by omega))
 have HP8:=hid (HP7.out.apart hg8 (by omega))
 have HV8:=hid (HV7.out.on (Zo hg8) (fun b hlt hr=>hg8.block b hlt (by simp;omega)))
 have HQ8:=hid hr8
 have HU8:=hid hh8
 clear hg8 hr8 hh8 hlp6 hlp7 hlq6 hlq7
 go_upto_region 11 with fail
 refine Qid na _ _ _ _ _ _ _ _ _ _ _ _ _ _ _ _ _ _ _ _ HP8 HQ8 (hid (Qbu ta _ _ w8.heap.size w8 (Nat.le_refl _) HV8.out.now HU8.out.now HFa.out)) _ (hid ?_)
 intro u106_9 u107_9 u108_9 u109_9 u110_9 u111_9 u112_9 u113_9 w9 hb9
 have HB9:=hgo HB8 hb9
 have HA9:=rgo HA8 hb9
 have HH9:=rgo HH8 hb9
 have HP9:=rgo HP8 hb9
 have HQ9:=rgo HQ8 hb9
 clear hb9
 go_upto_region 13 with fail
 have hlp9:=HP9.out.lt
 have hlq9:=HQ9.out.lt
 refine Qiu tc nc i c o q _ _ _ _ _ _ _ _ _ _ _ _ _ _ _ _ _ _ _ _ _ _ _ _ _ _ _ _ _ _ _ _ _ _ _ _ _ _ HA9 HH9 (hid (HCF.out _ HB9.out)) HP9 (by omega) _ (hid ?_)
 intro u115_10 u116_10 u117_10 u118_10 u119_10 u120_10 u121_10 pp0_10 pp1_10 pp2_10 pp3_10 pp4_10 pp5_10 pp6_10 pp7_10 pp8_10 pp9_10 w10 hg10 hr10 hh10
 have HB10:=hid (HB9.out.grown hg10 HB9.out.size (fun x hx=>by cases hx;omega))
 have HA10:=hid (HA9.out.apart hg10 (by omega))
 have HH10:=hid (HH9.out.apart hg10 (by omega))
 have HQ10:=hid (HQ9.out.apart hg10 (by omega))
 have HP10:=hid hr10
 have HV10:=hid hh10
 have hlp10:=HP10.out.lt
 have hlq10:=HQ10.out.lt
 clear hg10 hr10 hh10
 go_upto_region 14 with fail
 refine QiR tc nc 0 i c o q _ _ _ _ _ _ _ _ _ _ _ _ _ _ _ _ _ _ _ _ _ _ _ _ _ _ _ _ _ _ _ _ _ _ _ _ _ _ HA10 HH10 (hid (HRC.out _ HB10.out)) HQ10 (by omega) _ (hid ?_)
 intro u122_11 u123_11 u124_11 u125_11 u126_11 u127_11 u128_11 u129_11 u130_11 u131_11 u132_11 qq0_11 qq1_11 qq2_11 qq3_11 qq4_11 qq5_11 qq6_11 qq7_11 qq8_11 qq9_11 w11 hg11 hr11 hh11
 have HB11:=hid (HB10.out.grown hg11 HB10.out.size (fun x hx=>by cases hx;omega))
 have HA11:=hid (HA10.out.apart hg11 (by omega))
 have HH11:=hid (HH10.out.apart hg11 (by omega))
 have HP11:=hid (HP10.out.apart hg11 (by omega))
 have HV11:=hid (HV10.out.on (Zo hg11) (fun b hlt hr=>hg11.block b hlt (by simp;omega)))
 have HQ11:=hid hr11
 have HU11:=hid hh11
 clear hg11 hr11 hh11 hlp9 hlp10 hlq9 hlq10
 go_upto_region 15 with fail
 refine QiX nc _ _ _ _ _ _ _ _ _ _ _ _ _ _ _ _ _ _ _ _ HP11 HQ11 (hid (Qbu tc _ _ w11.heap.size w11 (Nat.le_refl _) HV11.out.now HU11.out.now HFc.out)) _ (hid ?_)
 intro u133_12 u134_12 u135_12 u136_12 u137_12 u138_12 u139_12 u140_12 w12 hb12
 have HB12:=hgo HB11 hb12
 have HA12:=rgo HA11 hb12
 have HH12:=rgo HH11 hb12
 have HP12:=rgo HP11 hb12
 have HQ12:=rgo HQ11 hb12
 clear hb12
 go_wp2
 go_ret
 exact ⟨rfl,HB12.out⟩
end Go.Proofs.YtooemgkjkngpcaaGreatDoor
