/-
  ConnTells: regions that call what landed.
-/
import Derived.Test.YtooemgkjkngpcaaGreatDoorteRegions
import Derived.Test.YtooemgkjkngpcaaGreatDoorteSt9RT2
namespace Go.Proofs.YtooemgkjkngpcaaGreatDoor
set_option maxRecDepth 1000000
set_option maxHeartbeats 8000000
open Go.RowKit
theorem QjK {A0 A5 A7 A8 A9 Aa Ac Ad Ae Af Ag Ah Ai Aj Ak Al Am An Ao Ap Aq Ar As At Au Av Aw Ax Ay Az B0 B1 B2 B3 B4 B5 B6 B7 B8 B9 Ba Bb Bc Bd Be Bf Bg Bh Bi Bj Bk Bl Bm Bn Bo Bp Bq Br Bs Bt Bu Bv Bw Bx By Bz C0 C1 C2 C3 C4 C5 C6 C7 C8 C9 Ca Cb Cc Cd Ce Cf Cg Ch Ci Cj Ck Cl Cm Cn Co Cp Cq Cr Cs Ct Cu Cv Cw Cx Cy Cz D0 D1 D2 D3 D4 D5 D6 D7 D8 D9 Da Db Dc Dd De Df Dg Dh Di Dj Dk Dl Dm Dn Do Dp Dq Dr Ds Dt Du Dv Dw:Value} {gs gh N:Nat} {w1:World} (t:St) (n m i c o q:Int) (AE AF AG AH AI AJ AK AL AM AN:Value) (HA:Hid (Row w1 gs 28 [AE,AF,AG,AH,AI,AJ,AK,AL,AM,AN])) (hC:Hid (Calls Tryz.prog 15 #[.agg #[AE,AF,AG,AH,AI,AJ,AK,AL,AM,AN],.int .i64 c,.int .i64 o] w1 fun e w'=>Below w1.heap.size w1 w'∧∃ v',e=.returned (.tuple #[v',.int .i64 m,.int .i64 n])∧Qn N w1.heap.size w' v' t)) (Q:Exit→Act→World→Prop)
  (hNext:Hid (∀ (AO AP AQ AR AS AT AU AV:Value) (gp:Nat) (A1 A2 A3 A4 A6 Ab AA AB AC AD:Value) (w':World),Below w1.heap.size w1 w'→w1.heap.size≤gp→Row w' gp 28 [A1,A2,A3,A4,A6,Ab,AA,AB,AC,AD]→(#[A1,A2,A3,A4,A6,Ab,AA,AB,AC,AD]:Array Value).all (·.oneCell')=true→QH (fun b=>(b<N∨w1.heap.size≤b)∧b<gp) w' (fun w2=>StV w2 w2.heap.size (.agg #[A1,A2,A3,A4,A6,Ab,AA,AB,AC,AD]) t)→Q .normal ⟨#[A0,.int .i64 i,.int .i64 c,.int .i64 o,.int .i64 q,A5,.pointer (some ⟨gs,0,none⟩),A7,A8,A9,Aa,.pointer (some ⟨gh,0,none⟩),Ac,.pointer (some ⟨gp,0,none⟩),.int .i64 m,.int .i64 n,Ag,Ah,Ai,AO,AP,AQ,AR,AS,AT,AU,AV,Ar,As,At,Au,Av,Aw,Ax,Ay,Az,B0,B1,B2,B3,B4,B5,B6,B7,B8,B9,Ba,Bb,Bc,Bd,Be,Bf,Bg,Bh,Bi,Bj,Bk,Bl,Bm,Bn,Bo,Bp,Bq,Br,Bs,Bt,Bu,Bv,Bw,Bx,By,Bz,C0,C1,C2,C3,C4,C5,C6,C7,C8,C9,Ca,Cb,Cc,Cd,Ce,Cf,Cg,Ch,Ci,Cj,Ck,Cl,Cm,Cn,Co,Cp,Cq,Cr,Cs,Ct,Cu,Cv,Cw,Cx,Cy,Cz,D0,D1,D2,D3,D4,D5,D6,D7,D8,D9,Da,Db,Dc,Dd,De,Df,Dg,Dh,Di,Dj,Dk,Dl,Dm,Dn,Do,Dp,Dq,Dr,Ds,Dt,Du,Dv,Dw],[]⟩ w')) :
  Code.wp Tryz.prog (.region 1 ((Tryz.f4.body.bind (Ja 1)).getD #[]) false) Q ⟨#[A0,.int .i64 i,.int .i64 c,.int .i64 o,.int .i64 q,A5,.pointer (some ⟨gs,0,none⟩),A7,A8,A9,Aa,.pointer (some ⟨gh,0,none⟩),Ac,Ad,Ae,Af,Ag,Ah,Ai,Aj,Ak,Al,Am,An,Ao,Ap,Aq,Ar,As,At,Au,Av,Aw,Ax,Ay,Az,B0,B1,B2,B3,B4,B5,B6,B7,B8,B9,Ba,Bb,Bc,Bd,Be,Bf,Bg,Bh,Bi,Bj,Bk,Bl,Bm,Bn,Bo,Bp,Bq,Br,Bs,Bt,Bu,Bv,Bw,Bx,By,Bz,C0,C1,C2,C3,C4,C5,C6,C7,C8,C9,Ca,Cb,Cc,Cd,Ce,Cf,Cg,Ch,Ci,Cj,Ck,Cl,Cm,Cn,Co,Cp,Cq,Cr,Cs,Ct,Cu,Cv,Cw,Cx,Cy,Cz,D0,D1,D2,D3,D4,D5,D6,D7,D8,D9,Da,Db,Dc,Dd,De,Df,Dg,Dh,Di,Dj,Dk,Dl,Dm,Dn,Do,Dp,Dq,Dr,Ds,Dt,Du,Dv,Dw],[]⟩ w1:=by
 conv=>arg 2;arg 2;whnf
 conv=>arg 4;dsimp only
 have HIZ:=hid (show (Tryz.prog.info? 28).map (·.size)=some 10 by kernel_rfl)
 obtain ⟨k0,k1,k2,k3,k4,k5,k6,k7,k8,k9⟩:=HA.out.c10
 go_wp2_with fail
 refine hC.out.mono ?_
 rintro e w2 ⟨hb2,v2,rfl,hva⟩
 obtain ⟨a0,a1,a2,a3,a4,a5,a6,a7,a8,a9,rfl,hon⟩:=hva.now.ten
 have hsz2:=hb2.size
 obtain ⟨w3,hw3⟩:∃ w3,w2.alloc (.cells #[.string ⟨#[]⟩,.int .i64 0,.int .i64 0,.slice none 0 0,.slice none 0 0,.slice none 0 0,.slice none 0 0,.slice none 0 0,.slice none 0 0,.slice none 0 0] 28)=w3:=⟨_,rfl⟩
 have hb3:=bof hw3
 have HR3:=hid (Q7 hw3)
 have hsz3:w2.heap.size<w3.heap.size:=HR3.out.lt
 obtain ⟨w4,hw4,HRS4,HHZ4,HON4,HSW4⟩:=QJ HR3.out [a0,a1,a2,a3,a4,a5,a6,a7,a8,a9] hon
 have HB4:=hid (show Below w1.heap.size w1 w4 by rw [← hw4];exact Qd (hb2.trans (hb3.mono hsz2)) hsz2 _)
 have HV4:=hid (show QH (fun b=>(b<N∨w1.heap.size≤b)∧b<w2.heap.size) w4 (fun w2=>StV w2 w2.heap.size (.agg #[a0,a1,a2,a3,a4,a5,a6,a7,a8,a9]) t) by
  rw [← hw4]
  refine QH.on (QH.below hva hb3) (Qd (Below.refl 0 _) (Nat.zero_le _) _) (fun b hb=>setRow_other _ _ _ _ ?_)
  have:=hb.2
  omega)
 have HW3:=hid hw3
 clear hb2 hb3 hva hw4 hw3 hon
 clear k0 k1 k2 k3 k4 k5 k6 k7 k8 k9
 go_wp2_with (first | rw [HW3.out] | skip;refine Qf rfl (.tmp 13) (.tmp 24) rfl rfl rfl HHZ4.out HIZ.out rfl HON4.out HSW4.out ?_)
 apply hNext.out
 ·exact HB4.out
 ·exact hsz2
 ·exact HRS4.out
 ·exact HON4.out
 ·exact HV4.out
theorem Qjv {A0 A5 A7 A8 A9 Aa Ac Ae Af Ag Ah Ai Aj Ak Al Am An Ao Ap Aq Ar As At Au Av Aw Ax Ay Az B0 B1 B2 B3 B4 B5 B6 B7 B8 B9 Ba Bb Bc Bd Be Bf Bg Bh Bi Bj Bk Bl Bm Bn Bo Bp Bq Br Bs Bt Bu Bv Bw Bx By Bz C0 C1 C2 C3 C4 C5 C6 C7 C8 C9 Ca Cb Cc Cd Ce Cf Cg Ch Ci Cj Ck Cl Cm Cn Co Cp Cq Cr Cs Ct Cu Cv Cw Cx Cy Cz D0 D1 D2 D3 D4 D5 D6 D7 D8 D9 Da Db Dc Dd De Df Dg Dh Di Dj Dk Dl Dm Dn Do Dp Dq Dr Ds Dt Du Dv Dw:Value} {gs gh gp N:Nat} {w1:World} (t:St) (n m i c o q:Int) (AV AW AX AY AZ BA BB BC BD BE A1 A2 AD AE AF AG AH AI AJ AK A3 A4 A6 Ab Ad AA AB AC:Value) (BF BG BH BI BJ BK BL BM BN BO:Value) (HA:Hid (Row w1 gs 28 [AV,AW,AX,AY,AZ,BA,BB,BC,BD,BE])) (HH:Hid (Row w1 gh 46 [A1,A2,AD,AE,AF,AG,AH,AI,AJ,AK,A3,A4,A6,Ab,Ad,AA,AB,AC])) (hC:Hid (Calls Tryz.prog 18 #[.agg #[AV,AW,AX,AY,AZ,BA,BB,BC,BD,BE],.int .i64 c,.int .i64 o,.int .i64 q,.agg #[A1,A2,AD,AE,AF,AG,AH,AI,AJ,AK,A3,A4,A6,Ab,Ad,AA,AB,AC]] w1 fun e w'=>Below w1.heap.size w1 w'∧∃ v',e=.returned (.tuple #[v',.int .i64 m,.int .i64 n])∧Qn N w1.heap.size w' v' t)) (HP:Hid (Row w1 gp 28 [BF,BG,BH,BI,BJ,BK,BL,BM,BN,BO])) (hNp:N≤gp) (Q:Exit→Act→World→Prop)
  (hNext:Hid (∀ (BP BQ BR BS BT BU BV BW BX BY:Value) (AL AM AN AO AP AQ AR AS AT AU:Value) (w':World),w1.grownBy w' (some gp)→Row w' gp 28 [AL,AM,AN,AO,AP,AQ,AR,AS,AT,AU]→Qn N w1.heap.size w' (.agg #[AL,AM,AN,AO,AP,AQ,AR,AS,AT,AU]) t→Q .normal ⟨#[A0,.int .i64 i,.int .i64 c,.int .i64 o,.int .i64 q,A5,.pointer (some ⟨gs,0,none⟩),A7,A8,A9,Aa,.pointer (some ⟨gh,0,none⟩),Ac,.pointer (some ⟨gp,0,none⟩),.int .i64 m,.int .i64 n,Ag,Ah,Ai,Aj,Ak,Al,Am,An,Ao,Ap,Aq,Ar,As,At,Au,Av,Aw,Ax,Ay,Az,B0,B1,B2,B3,B4,B5,B6,B7,B8,B9,Ba,Bb,Bc,Bd,Be,Bf,BP,BQ,BR,BS,BT,BU,BV,BW,BX,BY,Bq,Br,Bs,Bt,Bu,Bv,Bw,Bx,By,Bz,C0,C1,C2,C3,C4,C5,C6,C7,C8,C9,Ca,Cb,Cc,Cd,Ce,Cf,Cg,Ch,Ci,Cj,Ck,Cl,Cm,Cn,Co,Cp,Cq,Cr,Cs,Ct,Cu,Cv,Cw,Cx,Cy,Cz,D0,D1,D2,D3,D4,D5,D6,D7,D8,D9,Da,Db,Dc,Dd,De,Df,Dg,Dh,Di,Dj,Dk,Dl,Dm,Dn,Do,Dp,Dq,Dr,Ds,Dt,Du,Dv,Dw],[]⟩ w')) :
  Code.wp Tryz.prog (.region 5 ((Tryz.f4.body.bind (Ja 5)).getD #[]) false) Q ⟨#[A0,.int .i64 i,.int .i64 c,.int .i64 o,.int .i64 q,A5,.pointer (some ⟨gs,0,none⟩),A7,A8,A9,Aa,.pointer (some ⟨gh,0,none⟩),Ac,.pointer (some ⟨gp,0,none⟩),Ae,Af,Ag,Ah,Ai,Aj,Ak,Al,Am,An,Ao,Ap,Aq,Ar,As,At,Au,Av,Aw,Ax,Ay,Az,B0,B1,B2,B3,B4,B5,B6,B7,B8,B9,Ba,Bb,Bc,Bd,Be,Bf,Bg,Bh,Bi,Bj,Bk,Bl,Bm,Bn,Bo,Bp,Bq,Br,Bs,Bt,Bu,Bv,Bw,Bx,By,Bz,C0,C1,C2,C3,C4,C5,C6,C7,C8,C9,Ca,Cb,Cc,Cd,Ce,Cf,Cg,Ch,Ci,Cj,Ck,Cl,Cm,Cn,Co,Cp,Cq,Cr,Cs,Ct,Cu,Cv,Cw,Cx,Cy,Cz,D0,D1,D2,D3,D4,D5,D6,D7,D8,D9,Da,Db,Dc,Dd,De,Df,Dg,Dh,Di,Dj,Dk,Dl,Dm,Dn,Do,Dp,Dq,Dr,Ds,Dt,Du,Dv,Dw],[]⟩ w1:=by
 conv=>arg 2;arg 2;whnf
 conv=>arg 4;dsimp only
 have hlp:=HP.out.lt
 have HIZ:=hid (show (Tryz.prog.info? 28).map (·.size)=some 10 by kernel_rfl)
 obtain ⟨k0,k1,k2,k3,k4,k5,k6,k7,k8,k9⟩:=HA.out.c10
 obtain ⟨h0,h1,h2,h3,h4,h5,h6,h7,h8,h9,h10,h11,h12,h13,h14,h15,h16,h17⟩:=HH.out.c18
 go_wp2_with fail
 refine hC.out.mono ?_
 rintro e w2 ⟨hb2,v2,rfl,hva⟩
 obtain ⟨a0,a1,a2,a3,a4,a5,a6,a7,a8,a9,rfl,hon⟩:=hva.now.ten
 have hsz2:=hb2.size
 have HP2:=hid (HP.out.below hb2 hlp)
 obtain ⟨w3,hw3,HRS3,HHZ3,HON3,HSW3⟩:=QJ HP2.out [a0,a1,a2,a3,a4,a5,a6,a7,a8,a9] hon
 have ho3:∀ b,b≠gp→w3.heap[b]?=w2.heap[b]?:=fun b hb=>by rw [← hw3];exact setRow_other _ _ _ _ hb
 have hz3:Below 0 w2 w3:=by rw [← hw3];exact Qd (Below.refl 0 _) (Nat.zero_le _) _
 have hsz3:=hz3.size
 have HG3:=hid (show w1.grownBy w3 (some gp) from ⟨hz3.os.trans hb2.os,hz3.tape.trans hb2.tape,hz3.output.trans hb2.output,Nat.le_trans hsz2 hsz3,fun k hk hne=>(ho3 k (fun e=>hne (by rw [e]))).trans (hb2.block k hk)⟩)
 have HV3:=hid (hva.on hz3 (fun b hlt hr=>ho3 b (by omega)))
 clear hb2 hva hw3 ho3 hz3 hon
 clear k0 k1 k2 k3 k4 k5 k6 k7 k8 k9 h0 h1 h2 h3 h4 h5 h6 h7 h8 h9 h10 h11 h12 h13 h14 h15 h16 h17
 go_wp2_with (refine Qf rfl (.tmp 13) (.tmp 59) rfl rfl rfl HHZ3.out HIZ.out rfl HON3.out HSW3.out ?_)
 apply hNext.out
 ·exact HG3.out
 ·exact HRS3.out
 ·exact HV3.out
theorem Qjx {A0 A5 A7 A8 A9 Aa Ac Ad Ae Af Ag Ah Ai Aj Ak Al Am An Ao Ap Aq Ar As At Au Av Aw Ax Ay Az B0 B1 B2 B3 B4 B5 B6 B7 B8 B9 Ba Bb Bc Bd Be Bf Bg Bh Bi Bj Bk Bl Bm Bn Bo Bp Bq Br Bs Bt Bu Bv Bw Bx By Bz C0 C1 C2 C3 C4 C5 C6 C7 C8 C9 Ca Cb Cc Cd Ce Cf Cg Ch Ci Cj Ck Cl Cm Cn Co Cp Cq Cr Cs Ct Cu Cv Cw Cx Cy Cz D0 D1 D2 D3 D4 D5 D6 D7 D8 D9 Da Db Dc Dd De Df Dg Dh Di Dj Dk Dl Dm Dn Do Dp Dq Dr Ds Dt Du Dv Dw:Value} {gs gh N:Nat} {w1:World} (t:St) (n m i c o q:Int) (AW AX AY AZ BA BB BC BD BE BF AE AF AO AP AQ AR AS AT AU AV AG AH AI AJ AK AL AM AN:Value) (HA:Hid (Row w1 gs 28 [AW,AX,AY,AZ,BA,BB,BC,BD,BE,BF])) (HH:Hid (Row w1 gh 46 [AE,AF,AO,AP,AQ,AR,AS,AT,AU,AV,AG,AH,AI,AJ,AK,AL,AM,AN])) (hC:Hid (Calls Tryz.prog 16 #[.int .u8 105,.agg #[AW,AX,AY,AZ,BA,BB,BC,BD,BE,BF],.int .i64 i,.int .i64 c,.int .i64 o,.int .i64 q,.agg #[AE,AF,AO,AP,AQ,AR,AS,AT,AU,AV,AG,AH,AI,AJ,AK,AL,AM,AN]] w1 fun e w'=>Below w1.heap.size w1 w'∧∃ v',e=.returned (.tuple #[v',.int .i64 m,.int .i64 n])∧Qn N w1.heap.size w' v' t)) (Q:Exit→Act→World→Prop)
  (hNext:Hid (∀ (BG BH BI BJ BK BL BM BN BO BP BQ:Value) (gp:Nat) (A1 A2 A3 A4 A6 Ab AA AB AC AD:Value) (w':World),Below w1.heap.size w1 w'→w1.heap.size≤gp→Row w' gp 28 [A1,A2,A3,A4,A6,Ab,AA,AB,AC,AD]→(#[A1,A2,A3,A4,A6,Ab,AA,AB,AC,AD]:Array Value).all (·.oneCell')=true→QH (fun b=>(b<N∨w1.heap.size≤b)∧b<gp) w' (fun w2=>StV w2 w2.heap.size (.agg #[A1,A2,A3,A4,A6,Ab,AA,AB,AC,AD]) t)→Q .normal ⟨#[A0,.int .i64 i,.int .i64 c,.int .i64 o,.int .i64 q,A5,.pointer (some ⟨gs,0,none⟩),A7,A8,A9,Aa,.pointer (some ⟨gh,0,none⟩),Ac,Ad,Ae,Af,.pointer (some ⟨gp,0,none⟩),.int .i64 m,.int .i64 n,Aj,Ak,Al,Am,An,Ao,Ap,Aq,BG,BH,BI,BJ,BK,BL,BM,BN,BO,BP,BQ,B2,B3,B4,B5,B6,B7,B8,B9,Ba,Bb,Bc,Bd,Be,Bf,Bg,Bh,Bi,Bj,Bk,Bl,Bm,Bn,Bo,Bp,Bq,Br,Bs,Bt,Bu,Bv,Bw,Bx,By,Bz,C0,C1,C2,C3,C4,C5,C6,C7,C8,C9,Ca,Cb,Cc,Cd,Ce,Cf,Cg,Ch,Ci,Cj,Ck,Cl,Cm,Cn,Co,Cp,Cq,Cr,Cs,Ct,Cu,Cv,Cw,Cx,Cy,Cz,D0,D1,D2,D3,D4,D5,D6,D7,D8,D9,Da,Db,Dc,Dd,De,Df,Dg,Dh,Di,Dj,Dk,Dl,Dm,Dn,Do,Dp,Dq,Dr,Ds,Dt,Du,Dv,Dw],[]⟩ w')) :
  Code.wp Tryz.prog (.region 2 ((Tryz.f4.body.bind (Ja 2)).getD #[]) false) Q ⟨#[A0,.int .i64 i,.int .i64 c,.int .i64 o,.int .i64 q,A5,.pointer (some ⟨gs,0,none⟩),A7,A8,A9,Aa,.pointer (some ⟨gh,0,none⟩),Ac,Ad,Ae,Af,Ag,Ah,Ai,Aj,Ak,Al,Am,An,Ao,Ap,Aq,Ar,As,At,Au,Av,Aw,Ax,Ay,Az,B0,B1,B2,B3,B4,B5,B6,B7,B8,B9,Ba,Bb,Bc,Bd,Be,Bf,Bg,Bh,Bi,Bj,Bk,Bl,Bm,Bn,Bo,Bp,Bq,Br,Bs,Bt,Bu,Bv,Bw,Bx,By,Bz,C0,C1,C2,C3,C4,C5,C6,C7,C8,C9,Ca,Cb,Cc,Cd,Ce,Cf,Cg,Ch,Ci,Cj,Ck,Cl,Cm,Cn,Co,Cp,Cq,Cr,Cs,Ct,Cu,Cv,Cw,Cx,Cy,Cz,D0,D1,D2,D3,D4,D5,D6,D7,D8,D9,Da,Db,Dc,Dd,De,Df,Dg,Dh,Di,Dj,Dk,Dl,Dm,Dn,Do,Dp,Dq,Dr,Ds,Dt,Du,Dv,Dw],[]⟩ w1:=by
 conv=>arg 2;arg 2;whnf
 conv=>arg 4;dsimp only
 have HIZ:=hid (show (Tryz.prog.info? 28).map (·.size)=some 10 by kernel_rfl)
 obtain ⟨k0,k1,k2,k3,k4,k5,k6,k7,k8,k9⟩:=HA.out.c10
 obtain ⟨h0,h1,h2,h3,h4,h5,h6,h7,h8,h9,h10,h11,h12,h13,h14,h15,h16,h17⟩:=HH.out.c18
 go_wp2_with fail
 refine hC.out.mono ?_
 rintro e w2 ⟨hb2,v2,rfl,hva⟩
 obtain ⟨a0,a1,a2,a3,a4,a5,a6,a7,a8,a9,rfl,hon⟩:=hva.now.ten
 have hsz2:=hb2.size
 obtain ⟨w3,hw3⟩:∃ w3,w2.alloc (.cells #[.string ⟨#[]⟩,.int .i64 0,.int .i64 0,.slice none 0 0,.slice none 0 0,.slice none 0 0,.slice none 0 0,.slice none 0 0,.slice none 0 0,.slice none 0 0] 28)=w3:=⟨_,rfl⟩
 have hb3:=bof hw3
 have HR3:=hid (Q7 hw3)
 have hsz3:w2.heap.size<w3.heap.size:=HR3.out.lt
 obtain ⟨w4,hw4,HRS4,HHZ4,HON4,HSW4⟩:=QJ HR3.out [a0,a1,a2,a3,a4,a5,a6,a7,a8,a9] hon
 have HB4:=hid (show Below w1.heap.size w1 w4 by rw [← hw4];exact Qd (hb2.trans (hb3.mono hsz2)) hsz2 _)
 have HV4:=hid (show QH (fun b=>(b<N∨w1.heap.size≤b)∧b<w2.heap.size) w4 (fun w2=>StV w2 w2.heap.size (.agg #[a0,a1,a2,a3,a4,a5,a6,a7,a8,a9]) t) by
  rw [← hw4]
  refine QH.on (QH.below hva hb3) (Qd (Below.refl 0 _) (Nat.zero_le _) _) (fun b hb=>setRow_other _ _ _ _ ?_)
  have:=hb.2
  omega)
 have HW3:=hid hw3
 clear hb2 hb3 hva hw4 hw3 hon
 clear k0 k1 k2 k3 k4 k5 k6 k7 k8 k9 h0 h1 h2 h3 h4 h5 h6 h7 h8 h9 h10 h11 h12 h13 h14 h15 h16 h17
 go_wp2_with (first | rw [HW3.out] | skip;refine Qf rfl (.tmp 16) (.tmp 35) rfl rfl rfl HHZ4.out HIZ.out rfl HON4.out HSW4.out ?_)
 apply hNext.out
 ·exact HB4.out
 ·exact hsz2
 ·exact HRS4.out
 ·exact HON4.out
 ·exact HV4.out
theorem QjJ {A0 A5 A7 A8 A9 Aa Ac Ad Ae Af Ah Ai Aj Ak Al Am An Ao Ap Aq Ar As At Au Av Aw Ax Ay Az B0 B1 B2 B3 B4 B5 B6 B7 B8 B9 Ba Bb Bc Bd Be Bf Bg Bh Bi Bj Bk Bl Bm Bn Bo Bp Bq Br Bs Bt Bu Bv Bw Bx By Bz C0 C1 C2 C3 C4 C5 C6 C7 C8 C9 Ca Cb Cc Cd Ce Cf Cg Ch Ci Cj Ck Cl Cm Cn Co Cp Cq Cr Cs Ct Cu Cv Cw Cx Cy Cz D0 D1 D2 D3 D4 D5 D6 D7 D8 D9 Da Db Dc Dd De Df Dg Dh Di Dj Dk Dl Dm Dn Do Dp Dq Dr Ds Dt Du Dv Dw:Value} {gs gh gp N:Nat} {w1:World} (t:St) (n m i c o q:Int) (AV AW AX AY AZ BA BB BC BD BE A1 A2 AD AE AF AG AH AI AJ AK A3 A4 A6 Ab Ag AA AB AC:Value) (BF BG BH BI BJ BK BL BM BN BO:Value) (HA:Hid (Row w1 gs 28 [AV,AW,AX,AY,AZ,BA,BB,BC,BD,BE])) (HH:Hid (Row w1 gh 46 [A1,A2,AD,AE,AF,AG,AH,AI,AJ,AK,A3,A4,A6,Ab,Ag,AA,AB,AC])) (hC:Hid (Calls Tryz.prog 16 #[.int .u8 116,.agg #[AV,AW,AX,AY,AZ,BA,BB,BC,BD,BE],.int .i64 i,.int .i64 c,.int .i64 o,.int .i64 q,.agg #[A1,A2,AD,AE,AF,AG,AH,AI,AJ,AK,A3,A4,A6,Ab,Ag,AA,AB,AC]] w1 fun e w'=>Below w1.heap.size w1 w'∧∃ v',e=.returned (.tuple #[v',.int .i64 m,.int .i64 n])∧Qn N w1.heap.size w' v' t)) (HP:Hid (Row w1 gp 28 [BF,BG,BH,BI,BJ,BK,BL,BM,BN,BO])) (hNp:N≤gp) (Q:Exit→Act→World→Prop)
  (hNext:Hid (∀ (BP BQ BR BS BT BU BV BW BX BY BZ:Value) (AL AM AN AO AP AQ AR AS AT AU:Value) (w':World),w1.grownBy w' (some gp)→Row w' gp 28 [AL,AM,AN,AO,AP,AQ,AR,AS,AT,AU]→Qn N w1.heap.size w' (.agg #[AL,AM,AN,AO,AP,AQ,AR,AS,AT,AU]) t→Q .normal ⟨#[A0,.int .i64 i,.int .i64 c,.int .i64 o,.int .i64 q,A5,.pointer (some ⟨gs,0,none⟩),A7,A8,A9,Aa,.pointer (some ⟨gh,0,none⟩),Ac,Ad,Ae,Af,.pointer (some ⟨gp,0,none⟩),.int .i64 m,.int .i64 n,Aj,Ak,Al,Am,An,Ao,Ap,Aq,Ar,As,At,Au,Av,Aw,Ax,Ay,Az,B0,B1,B2,B3,B4,B5,B6,B7,B8,B9,Ba,Bb,Bc,Bd,Be,Bf,Bg,Bh,Bi,Bj,Bk,Bl,Bm,Bn,Bo,Bp,BP,BQ,BR,BS,BT,BU,BV,BW,BX,BY,BZ,C1,C2,C3,C4,C5,C6,C7,C8,C9,Ca,Cb,Cc,Cd,Ce,Cf,Cg,Ch,Ci,Cj,Ck,Cl,Cm,Cn,Co,Cp,Cq,Cr,Cs,Ct,Cu,Cv,Cw,Cx,Cy,Cz,D0,D1,D2,D3,D4,D5,D6,D7,D8,D9,Da,Db,Dc,Dd,De,Df,Dg,Dh,Di,Dj,Dk,Dl,Dm,Dn,Do,Dp,Dq,Dr,Ds,Dt,Du,Dv,Dw],[]⟩ w')) :
  Code.wp Tryz.prog (.region 6 ((Tryz.f4.body.bind (Ja 6)).getD #[]) false) Q ⟨#[A0,.int .i64 i,.int .i64 c,.int .i64 o,.int .i64 q,A5,.pointer (some ⟨gs,0,none⟩),A7,A8,A9,Aa,.pointer (some ⟨gh,0,none⟩),Ac,Ad,Ae,Af,.pointer (some ⟨gp,0,none⟩),Ah,Ai,Aj,Ak,Al,Am,An,Ao,Ap,Aq,Ar,As,At,Au,Av,Aw,Ax,Ay,Az,B0,B1,B2,B3,B4,B5,B6,B7,B8,B9,Ba,Bb,Bc,Bd,Be,Bf,Bg,Bh,Bi,Bj,Bk,Bl,Bm,Bn,Bo,Bp,Bq,Br,Bs,Bt,Bu,Bv,Bw,Bx,By,Bz,C0,C1,C2,C3,C4,C5,C6,C7,C8,C9,Ca,Cb,Cc,Cd,Ce,Cf,Cg,Ch,Ci,Cj,Ck,Cl,Cm,Cn,Co,Cp,Cq,Cr,Cs,Ct,Cu,Cv,Cw,Cx,Cy,Cz,D0,D1,D2,D3,D4,D5,D6,D7,D8,D9,Da,Db,Dc,Dd,De,Df,Dg,Dh,Di,Dj,Dk,Dl,Dm,Dn,Do,Dp,Dq,Dr,Ds,Dt,Du,Dv,Dw],[]⟩ w1:=by
 conv=>arg 2;arg 2;whnf
 conv=>arg 4;dsimp only
 have hlp:=HP.out.lt
 have HIZ:=hid (show (Tryz.prog.info? 28).map (·.size)=some 10 by kernel_rfl)
 obtain ⟨k0,k1,k2,k3,k4,k5,k6,k7,k8,k9⟩:=HA.out.c10
 obtain ⟨h0,h1,h2,h3,h4,h5,h6,h7,h8,h9,h10,h11,h12,h13,h14,h15,h16,h17⟩:=HH.out.c18
 go_wp2_with fail
 refine hC.out.mono ?_
 rintro e w2 ⟨hb2,v2,rfl,hva⟩
 obtain ⟨a0,a1,a2,a3,a4,a5,a6,a7,a8,a9,rfl,hon⟩:=hva.now.ten
 have hsz2:=hb2.size
 have HP2:=hid (HP.out.below hb2 hlp)
 obtain ⟨w3,hw3,HRS3,HHZ3,HON3,HSW3⟩:=QJ HP2.out [a0,a1,a2,a3,a4,a5,a6,a7,a8,a9] hon
 have ho3:∀ b,b≠gp→w3.heap[b]?=w2.heap[b]?:=fun b hb=>by rw [← hw3];exact setRow_other _ _ _ _ hb
 have hz3:Below 0 w2 w3:=by rw [← hw3];exact Qd (Below.refl 0 _) (Nat.zero_le _) _
 have hsz3:=hz3.size
 have HG3:=hid (show w1.grownBy w3 (some gp) from ⟨hz3.os.trans hb2.os,hz3.tape.trans hb2.tape,hz3.output.trans hb2.output,Nat.le_trans hsz2 hsz3,fun k hk hne=>(ho3 k (fun e=>hne (by rw [e]))).trans (hb2.block k hk)⟩)
 have HV3:=hid (hva.on hz3 (fun b hlt hr=>ho3 b (by omega)))
 clear hb2 hva hw3 ho3 hz3 hon
 clear k0 k1 k2 k3 k4 k5 k6 k7 k8 k9 h0 h1 h2 h3 h4 h5 h6 h7 h8 h9 h10 h11 h12 h13 h14 h15 h16 h17
 go_wp2_with (refine Qf rfl (.tmp 16) (.tmp 70) rfl rfl rfl HHZ3.out HIZ.out rfl HON3.out HSW3.out ?_)
 apply hNext.out
 ·exact HG3.out
 ·exact HRS3.out
 ·exact HV3.out
end Go.Proofs.YtooemgkjkngpcaaGreatDoor
