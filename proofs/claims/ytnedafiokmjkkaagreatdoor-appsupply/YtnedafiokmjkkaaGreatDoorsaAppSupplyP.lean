/- AppSupply returns true of every state, of every message and. -/
import Derived.Test.YtnedafiokmjkkaaGreatDoorsaApObey
import Derived.Test.YtnedafiokmjkkaaGreatDoorRows
import Derived.Test.YtnedafiokmjkkaaGreatDoorCards
import Derived.Test.YtnedafiokmjkkaaGreatDoorTie
import Derived.Deep.Strs
import Derived.Deep.FieldsWide
import Derived.ChangeMaps5
import Derived.Laws.StructEq
import Derived.Lib.LaidTab
namespace Go.Proofs.YtnedafiokmjkkaaGreatDoor
open Go.Proofs.Tryz
set_option maxRecDepth 1000000
set_option maxHeartbeats 8000000
open Go.ChangeShapes Go.WideShapes Go.ChangeAt Go.RowKit
theorem Qi8 (b e i:Nat):(⟨b,e,none⟩:Addr).add i=⟨b,e+i,none⟩:=by unfold Addr.add;split <;> simp_all
theorem Ju {H:Type} {enc:TypeId×Value→H} {W:World} {j:Nat} {v:Value} {x:DataW H×List MemPlace}
    (hf:DataW.trod enc prog W 0 (fun _=>true) true j 29 [v]=some x) (m:∀ y∈x.1.weights prog 29,y≤reachBytes) :
    ∃ l,Bytes W W.heap.size v l∧l.length≤140737488351232:=by
  rcases open_ints underlying29 underlying5 (by kernel_rfl) hf with ⟨b,_⟩ | ⟨a,len,e,zs,b,_⟩
  · obtain rfl:v=Bc:=by simpa using b
    exact ⟨[],.inl ⟨rfl,rfl⟩,by simp⟩
  · obtain rfl:v=.slice (some a) len e:=by simpa using b
    refine QcU (a0:=some a) (len0:=len) (cap0:=e) (x:=x) hf (fun elems spare he=>?_)
    refine m _ ?_;rw [he];simp [DataW.weights,underlying29]
theorem JL {H:Type} (P:Program) (e:TypeId) (l:List (DataW H)) (d:DataW H) (hd:d∈l) (y:Nat) (hy:y∈d.weights P e):y∈DataW.weightsAll P e l:=by
  induction l with
  | nil=>simp at hd
  | cons a r ih =>
    simp only [DataW.weightsAll]
    rcases Bo.1 hd with rfl | h
    · simp_all
    · simp_all
theorem QgK {W:World} {a:Addr} {len m k:Nat} {α:Type} [Inhabited α] (e:α→List Value) (P:α→Prop) (hk:0<k) (z:∀ r,(e r).length=k) (hl:len≤m)
    (each:∀ i,i<len→∃ r,W.cells? 0 (a.add (i*k)) k=some (e r)∧P r):∃ l:List α,Ja W W.heap.size (.slice (some a) len m) k (l.map e)∧(∀ r∈l,P r)∧l.length=len:=by
  obtain ⟨f,D⟩:=Deep.choose_lt each;refine ⟨(List.range len).map f,?_,fun r hr=>?_,by simp⟩
  · by_cases h0:len=0
    · subst h0
      exact .inr (.inl ⟨a,m,rfl,rfl⟩)
    · have A:∀ i,i<len→∀ j,j<k→W.cell? ((a.add (i*k)).add j)=(e (f i))[j]?:=fun i hi j hj=>(CU (D i hi).1).2.2 j hj
      obtain ⟨b,E,G⟩:=a;have hc:=A 0 (by omega) 0 hk
      rw [Bk (by rw [z];exact hk)] at hc
      have C:G=none:=by simpa [Addr.add] using World.cell?_spot hc
      subst C;refine .inr (.inr ⟨b,E,m,by simp,by simpa using hl,fun i r hr=>?_⟩)
      have hi:i<len:=by have:=(Bm.1 hr).1;simpa using this
      obtain rfl:e (f i)=r:=by
        rw [Bs,Bs,List.getElem?_range hi] at hr;simpa using hr
      have q:∀ j x,(e (f i))[j]?=some x→W.cell? ⟨b,E+i*k+j,none⟩=some x:=fun j x hx=>by
        have hj:j<k:=by have:=(Bm.1 hx).1;rwa [z] at this
        have:=A i hi j hj
        rwa [Qi8,Qi8,hx] at this
      refine ⟨CE (q 0 _ (Bk (by rw [z];exact hk))),q⟩
  · obtain ⟨i,hi,rfl⟩:=BC.1 hr
    exact (D i (Ce.1 hi)).2
theorem QfR {z:Int} (h:(Lit.int .u64 z).wf=true):∃ n:Nat,z=n∧n<18446744073709551616:=by
  have:0≤z∧z<18446744073709551616:=by
    simp [Lit.wf,IntKind.min,IntKind.max,IntKind.signed,IntKind.bits] at h;omega
  exact ⟨z.toNat,by omega,by omega⟩
theorem Qj8 {H:Type} {enc:TypeId×Value→H} {W:World} {j:Nat} {v:Value} {x:DataW H×List MemPlace}
    (hf:DataW.trod enc prog W 0 (fun _=>true) true j 34 [v]=some x) (L:∀ y∈x.1.weights prog 34,y≤reachBytes) :
    ∃ l,ZD W W.heap.size v l∧(∀ v∈l,v.ok)∧l.length<2305843009213693952:=by
  rcases Deep.open_slice underlying34 hf with ⟨b,_⟩ | ⟨a,len,e,m,n,D,Pl,b,_,hl,hm,I,hx,E⟩
  · obtain rfl:v=Bc:=by simpa using b
    exact ⟨[],.inl ⟨rfl,rfl⟩,by simp,by simp⟩
  · obtain rfl:v=.slice (some a) len e:=by simpa using b
    have G:m=e:=by simpa using I
    subst G;have A:prog.cellsOf 304=2:=by kernel_rfl
    have q:prog.bytesOf 304=16:=by kernel_rfl
    have hlen:len<2305843009213693952:=by
      have:=L ((len+(m-len))*16) (by rw [hx];simp [DataW.weights,underlying34,q])
      simp only [reachBytes] at this;omega
    haveI:Inhabited Vl:=⟨⟨0,0⟩⟩
    obtain ⟨l,h1,h2,h3⟩:=QgK (W:=W) (a:=a) (len:=len) (m:=m) (k:=2) QmZ Vl.ok (by omega) (fun _=>rfl) hl (fun i hi=>by
      obtain ⟨z,g1,g2⟩:=E i (by omega)
      rw [A] at g1;obtain ⟨_,C,_⟩:=CU g1
      match z,C with
      | [c0,c1],_ =>
        obtain ⟨y0,y1,n',hd,_,t0,t1⟩:=trod_struct2 underlying304 g2;have e1:prog.cellsOf 47=1:=by kernel_rfl
        have t0':DataW.trod enc prog W 0 (fun _=>true) true n' 47 [c0]=some y0:=by rw [show [c0]=(([c0,c1].drop 0).take (prog.cellsOf 47)) by rw [e1];rfl];exact t0
        have t1':DataW.trod enc prog W 0 (fun _=>true) true n' 47 [c1]=some y1:=by rw [show [c1]=(([c0,c1].drop 1).take (prog.cellsOf 47)) by rw [e1];rfl];exact t1
        obtain ⟨z0,k0,_,f0⟩:=Bz underlying47 t0';obtain ⟨z1,k1,_,f1⟩:=Bz underlying47 t1';obtain ⟨n0,rfl,b0⟩:=QfR f0;obtain ⟨n1,rfl,b1⟩:=QfR f1;obtain rfl:c0=.int .u64 n0:=by simpa using k0
        obtain rfl:c1=.int .u64 n1:=by simpa using k1
        exact ⟨⟨n0,n1⟩,g1,b0,b1⟩)
    exact ⟨l,h1,h2,by omega⟩
theorem Qov {H:Type} {enc:TypeId×Value→H} {W:World} {j:Nat} {v:Value} {x:DataW H×List MemPlace}
    (hf:DataW.trod enc prog W 0 (fun _=>true) true j 35 [v]=some x) (M:∀ y∈x.1.weights prog 35,y≤reachBytes) :
    ∃ l,ZE W W.heap.size v l∧(∀ v∈l,v.ok)∧l.length<2305843009213693952:=by
  rcases Deep.open_slice underlying35 hf with ⟨b,_⟩ | ⟨a,len,e,m,n,D,Pl,b,_,hl,hm,L,hx,G⟩
  · obtain rfl:v=Bc:=by simpa using b
    exact ⟨[],.inl ⟨rfl,rfl⟩,by simp,by simp⟩
  · obtain rfl:v=.slice (some a) len e:=by simpa using b
    have I:m=e:=by simpa using L
    subst I;have C:prog.cellsOf 272=3:=by kernel_rfl
    have q:prog.bytesOf 272=24:=by kernel_rfl
    have hlen:len<2305843009213693952:=by
      have:=M ((len+(m-len))*24) (by rw [hx];simp [DataW.weights,underlying35,q])
      simp only [reachBytes] at this;omega
    haveI:Inhabited Vt:=⟨⟨false,0,0⟩⟩
    obtain ⟨l,h1,h2,h3⟩:=QgK (W:=W) (a:=a) (len:=len) (m:=m) (k:=3) Qpg Vt.ok (by omega) (fun _=>rfl) hl (fun i hi=>by
      obtain ⟨A,g1,g2⟩:=G i (by omega)
      rw [C] at g1;obtain ⟨_,E,_⟩:=CU g1
      match A,E with
      | [c0,c1,c2],_ =>
        obtain ⟨x0,x1,z,_,_,s0,s1⟩:=trod_struct2 underlying272 g2;have eb:prog.cellsOf 4=1:=by kernel_rfl
        have es:prog.cellsOf 270=2:=by kernel_rfl
        have s0':DataW.trod enc prog W 0 (fun _=>true) true z 4 [c0]=some x0:=by rw [show [c0]=(([c0,c1,c2].drop 0).take (prog.cellsOf 4)) by rw [eb];rfl];exact s0
        have s1':DataW.trod enc prog W 0 (fun _=>true) true z 270 [c1,c2]=some x1:=by rw [show [c1,c2]=(([c0,c1,c2].drop 1).take (prog.cellsOf 270)) by rw [es];rfl];exact s1
        obtain ⟨zb,kb,_⟩:=DU underlying4 s0';obtain rfl:c0=.bool zb:=by simpa using kb
        obtain ⟨y0,y1,n',_,_,t0,t1⟩:=trod_struct2 underlying270 s1';have e1:prog.cellsOf 47=1:=by kernel_rfl
        have t0':DataW.trod enc prog W 0 (fun _=>true) true n' 47 [c1]=some y0:=by rw [show [c1]=(([c1,c2].drop 0).take (prog.cellsOf 47)) by rw [e1];rfl];exact t0
        have t1':DataW.trod enc prog W 0 (fun _=>true) true n' 47 [c2]=some y1:=by rw [show [c2]=(([c1,c2].drop 1).take (prog.cellsOf 47)) by rw [e1];rfl];exact t1
        obtain ⟨z0,k0,_,f0⟩:=Bz underlying47 t0';obtain ⟨z1,k1,_,f1⟩:=Bz underlying47 t1';obtain ⟨n0,rfl,b0⟩:=QfR f0;obtain ⟨n1,rfl,b1⟩:=QfR f1;obtain rfl:c1=.int .u64 n0:=by simpa using k0
        obtain rfl:c2=.int .u64 n1:=by simpa using k1
        exact ⟨⟨zb,n0,n1⟩,g1,b0,b1⟩)
    exact ⟨l,h1,h2,by omega⟩
theorem QkJ {H:Type} {enc:TypeId×Value→H} {W:World} {e:Nat} {c0 c1 c2 c3 c4 c5:Value} {x:DataW H×List MemPlace}
    (hf:DataW.trod enc prog W 0 (fun _=>true) true e 33 [c0,c1,c2,c3,c4,c5]=some x) (E:∀ y∈x.1.weights prog 33,y≤reachBytes) :
    ∃ h:Hd,c0=.string h.chain∧c1=Bb h.height∧c2=Bb h.time∧Bytes W W.heap.size c3 h.root∧Bytes W W.heap.size c4 h.vals∧Bytes W W.heap.size c5 h.next∧h.fits:=by
  obtain ⟨xs,n',_,hd,_,j,b⟩:=Cb underlying33 hf;have e0:prog.cellsOf 9=1:=by kernel_rfl
  have e1:prog.cellsOf 3=1:=by kernel_rfl
  have e3:prog.cellsOf 29=1:=by kernel_rfl
  match xs,j with
  | [y0,y1,y2,y3,y4,y5],_ =>
    have t0:DataW.trod enc prog W 0 (fun _=>true) true n' 9 [c0]=some y0:=by
      have:=b 0 _ rfl;simpa [e0] using this
    have t1:DataW.trod enc prog W 0 (fun _=>true) true n' 3 [c1]=some y1:=by
      have:=b 1 _ rfl;simpa [e1] using this
    have t2:DataW.trod enc prog W 0 (fun _=>true) true n' 3 [c2]=some y2:=by
      have:=b 2 _ rfl;simpa [e1] using this
    have t3:DataW.trod enc prog W 0 (fun _=>true) true n' 29 [c3]=some y3:=by
      have:=b 3 _ rfl;simpa [e3] using this
    have t4:DataW.trod enc prog W 0 (fun _=>true) true n' 29 [c4]=some y4:=by
      have:=b 4 _ rfl;simpa [e3] using this
    have t5:DataW.trod enc prog W 0 (fun _=>true) true n' 29 [c5]=some y5:=by
      have:=b 5 _ rfl;simpa [e3] using this
    have hw:∀ y,y∈y0.1.weights prog 9∨y∈y3.1.weights prog 29∨y∈y4.1.weights prog 29∨y∈y5.1.weights prog 29→y≤reachBytes:=fun y hy=>E y (by
      rw [hd];simp only [DataW.weights,underlying33];simp [DataW.weightsEach]
      rcases hy with hy | hy | hy | hy
      · exact .inl hy
      · exact .inr (.inr (.inr (.inl hy)))
      · exact .inr (.inr (.inr (.inr (.inl hy))))
      · exact .inr (.inr (.inr (.inr (.inr hy)))))
    obtain ⟨l3,m,A⟩:=Ju t3 (fun y hy=>hw y (.inr (.inl hy)))
    obtain ⟨l4,q,C⟩:=Ju t4 (fun y hy=>hw y (.inr (.inr (.inl hy))))
    obtain ⟨l5,z,D⟩:=Ju t5 (fun y hy=>hw y (.inr (.inr (.inr hy))))
    obtain ⟨s,g0,q0,_⟩:=C8 underlying9 t0;obtain ⟨z1,g1,_⟩:=Bz underlying3 t1;obtain ⟨z2,g2,_⟩:=Bz underlying3 t2;obtain rfl:c0=.string s:=by simpa using g0
    obtain rfl:c1=Bb z1:=by simpa using g1
    obtain rfl:c2=Bb z2:=by simpa using g2
    have hs:s.size≤140737488351232:=by
      have:=hw s.size (.inl (by rw [q0];simp [DataW.weights]))
      simpa [reachBytes] using this
    exact ⟨⟨s,z1,z2,l3,l4,l5⟩,rfl,rfl,rfl,m,q,z,hs,A,C,D⟩
theorem Qlx:prog.cellsOf 33=6:=by kernel_rfl
theorem Qly:prog.cellsOf 37=8:=by kernel_rfl
theorem Qgf {H:Type} {enc:TypeId×Value→H} {W:World} {e:Nat} {c0 c1 c2 c3:Value} {x:DataW H×List MemPlace}
    (hf:DataW.trod enc prog W 0 (fun _=>true) true e 31 [c0,c1,c2,c3]=some x) (C:∀ y∈x.1.weights prog 31,y≤reachBytes) :
    ∃ k:Kn,c0=Bb k.height∧c1=Bb k.time∧Bytes W W.heap.size c2 k.root∧Bytes W W.heap.size c3 k.next∧k.fits:=by
  obtain ⟨xs,n',_,hd,_,j,b⟩:=Cb underlying31 hf;have e1:prog.cellsOf 3=1:=by kernel_rfl
  have e3:prog.cellsOf 29=1:=by kernel_rfl
  match xs,j with
  | [y0,y1,y2,y3],_ =>
    have t0:DataW.trod enc prog W 0 (fun _=>true) true n' 3 [c0]=some y0:=by
      have:=b 0 _ rfl;simpa [e1] using this
    have t1:DataW.trod enc prog W 0 (fun _=>true) true n' 3 [c1]=some y1:=by
      have:=b 1 _ rfl;simpa [e1] using this
    have t2:DataW.trod enc prog W 0 (fun _=>true) true n' 29 [c2]=some y2:=by
      have:=b 2 _ rfl;simpa [e3] using this
    have t3:DataW.trod enc prog W 0 (fun _=>true) true n' 29 [c3]=some y3:=by
      have:=b 3 _ rfl;simpa [e3] using this
    have hw:∀ y,y∈y2.1.weights prog 29∨y∈y3.1.weights prog 29→y≤reachBytes:=fun y hy=>C y (by
      rw [hd];simp only [DataW.weights,underlying31];simp [DataW.weightsEach]
      rcases hy with hy | hy
      · exact .inr (.inr (.inl hy))
      · exact .inr (.inr (.inr hy)))
    obtain ⟨l2,m,z⟩:=Ju t2 (fun y hy=>hw y (.inl hy))
    obtain ⟨l3,q,A⟩:=Ju t3 (fun y hy=>hw y (.inr hy))
    obtain ⟨z0,g0,_⟩:=Bz underlying3 t0;obtain ⟨z1,g1,_⟩:=Bz underlying3 t1;obtain rfl:c0=Bb z0:=by simpa using g0
    obtain rfl:c1=Bb z1:=by simpa using g1
    exact ⟨⟨z0,z1,l2,l3⟩,rfl,rfl,m,q,z,A⟩
theorem Ql5 {H:Type} {enc:TypeId×Value→H} {W:World} {j:Nat} {v:Value} {x:DataW H×List MemPlace}
    (hf:DataW.trod enc prog W 0 (fun _=>true) true j 76 [v]=some x) (C:∀ y∈x.1.weights prog 76,y≤reachBytes) :
    ∃ l,Jj W W.heap.size v l∧(∀ k∈l,k.fits)∧l.length<2305843009213693952:=by
  rcases Deep.open_slice underlying76 hf with ⟨b,_⟩ | ⟨a,len,e,m,n,D,Pl,b,_,hl,hm,O,hx,L⟩
  · obtain rfl:v=Bc:=by simpa using b
    exact ⟨[],Jj.nil _ _,by simp,by simp⟩
  · obtain rfl:v=.slice (some a) len e:=by simpa using b
    have M:m=e:=by simpa using O
    subst M;have G:prog.cellsOf 31=4:=by kernel_rfl
    have z:prog.bytesOf 31=64:=by kernel_rfl
    have hlen:len<2305843009213693952:=by
      have:=C ((len+(m-len))*64) (by rw [hx];simp [DataW.weights,underlying76,z])
      simp only [reachBytes] at this;omega
    haveI:Inhabited KnR:=⟨⟨Kn.none,undef,undef⟩⟩
    obtain ⟨l,h1,h2,h3⟩:=QgK (W:=W) (a:=a) (len:=len) (m:=m) (k:=4) JS (fun q:KnR=>q.ok W W.heap.size∧q.k.fits) (by omega) (fun _=>rfl) hl (fun i hi=>by
      obtain ⟨E,g1,g2⟩:=L i (by omega)
      rw [G] at g1;obtain ⟨_,I,_⟩:=CU g1
      match E,I with
      | [c0,c1,c2,c3],_ =>
        obtain ⟨k,rfl,rfl,b2,b3,A⟩:=Qgf g2 (fun y hy=>C y (by
          rw [hx];simp only [DataW.weights,underlying76,Bo,Bw]
          exact .inr (.inl (JL _ _ _ (D i) (BC.2 ⟨i,Ce.2 hi,rfl⟩) y hy))))
        exact ⟨⟨k,c2,c3⟩,g1,⟨b2,b3⟩,A⟩)
    refine ⟨l.map (·.k),⟨l,rfl,h1,fun q hq=>(h2 q hq).1⟩,fun k hk=>?_,by simp;omega⟩
    obtain ⟨q,hq,rfl⟩:=BC.1 hk;exact (h2 q hq).2
theorem Qkp {H:Type} {enc:TypeId×Value→H} {W:World} {e:Nat} {c0 c1 c2 c3:Value} {x:DataW H×List MemPlace}
    (hf:DataW.trod enc prog W 0 (fun _=>true) true e 78 [c0,c1,c2,c3]=some x) (A:∀ y∈x.1.weights prog 78,y≤reachBytes) :
    ∃ c:Cl,c0=.string c.chain∧c1=Bb c.trust∧c2=.bool c.frozen∧Jj W W.heap.size c3 c.known∧c.fits:=by
  obtain ⟨xs,n',_,hd,_,j,b⟩:=Cb underlying78 hf;have e0:prog.cellsOf 9=1:=by kernel_rfl
  have e1:prog.cellsOf 3=1:=by kernel_rfl
  have e2:prog.cellsOf 4=1:=by kernel_rfl
  have e3:prog.cellsOf 76=1:=by kernel_rfl
  match xs,j with
  | [y0,y1,y2,y3],_ =>
    have t0:DataW.trod enc prog W 0 (fun _=>true) true n' 9 [c0]=some y0:=by
      have:=b 0 _ rfl;simpa [e0] using this
    have t1:DataW.trod enc prog W 0 (fun _=>true) true n' 3 [c1]=some y1:=by
      have:=b 1 _ rfl;simpa [e1] using this
    have t2:DataW.trod enc prog W 0 (fun _=>true) true n' 4 [c2]=some y2:=by
      have:=b 2 _ rfl;simpa [e2] using this
    have t3:DataW.trod enc prog W 0 (fun _=>true) true n' 76 [c3]=some y3:=by
      have:=b 3 _ rfl;simpa [e3] using this
    have hw:∀ y,y∈y0.1.weights prog 9∨y∈y3.1.weights prog 76→y≤reachBytes:=fun y hy=>A y (by
      rw [hd];simp only [DataW.weights,underlying78];simp [DataW.weightsEach]
      rcases hy with hy | hy
      · exact .inl hy
      · exact .inr (.inr (.inr hy)))
    obtain ⟨l3,m,q,z⟩:=Ql5 t3 (fun y hy=>hw y (.inr hy))
    obtain ⟨s,g0,q0,_⟩:=C8 underlying9 t0;obtain ⟨z1,g1,_⟩:=Bz underlying3 t1;obtain ⟨z2,g2,_⟩:=DU underlying4 t2;obtain rfl:c0=.string s:=by simpa using g0
    obtain rfl:c1=Bb z1:=by simpa using g1
    obtain rfl:c2=.bool z2:=by simpa using g2
    have hs:s.size≤140737488351232:=by
      have:=hw s.size (.inl (by rw [q0];simp [DataW.weights]))
      simpa [reachBytes] using this
    exact ⟨⟨s,z1,z2,l3⟩,rfl,rfl,rfl,m,hs,z,q⟩
theorem Qk5 {H:Type} {enc:TypeId×Value→H} {W:World} {e:Nat} {c0 c1 c2 c3 c4 c5 c6 c7:Value} {x:DataW H×List MemPlace}
    (hf:DataW.trod enc prog W 0 (fun _=>true) true e 37 [c0,c1,c2,c3,c4,c5,c6,c7]=some x) (m:∀ y∈x.1.weights prog 37,y≤reachBytes) :
    ∃ s:Sg,SgV W W.heap.size (.agg #[c0,c1,c2,c3,c4,c5,c6,c7]) s∧s.fits:=by
  obtain ⟨xs,n',_,hd,_,j,b⟩:=Cb underlying37 hf;have e1:prog.cellsOf 34=1:=by kernel_rfl
  have e2:prog.cellsOf 35=1:=by kernel_rfl
  match xs,j with
  | [y0,y1,y2],_ =>
    have t0:DataW.trod enc prog W 0 (fun _=>true) true n' 33 [c0,c1,c2,c3,c4,c5]=some y0:=by
      have:=b 0 _ rfl;simpa [Qlx] using this
    have t1:DataW.trod enc prog W 0 (fun _=>true) true n' 34 [c6]=some y1:=by
      have:=b 1 _ rfl;simpa [e1] using this
    have t2:DataW.trod enc prog W 0 (fun _=>true) true n' 35 [c7]=some y2:=by
      have:=b 2 _ rfl;simpa [e2] using this
    have hw:∀ y,y∈y0.1.weights prog 33∨y∈y1.1.weights prog 34∨y∈y2.1.weights prog 35→y≤reachBytes:=fun y hy=>m y (by
      rw [hd];simp only [DataW.weights,underlying37];simp [DataW.weightsEach]
      exact hy)
    obtain ⟨g,rfl,rfl,rfl,h3,h4,h5,hg⟩:=QkJ t0 (fun y hy=>hw y (.inl hy))
    obtain ⟨l1,b1,f1,k1⟩:=Qj8 t1 (fun y hy=>hw y (.inr (.inl hy)))
    obtain ⟨l2,b2,f2,k2⟩:=Qov t2 (fun y hy=>hw y (.inr (.inr hy)))
    exact ⟨⟨g,l1,l2⟩,⟨c3,c4,c5,c6,c7,rfl,h3,h4,h5,b1,b2⟩,hg,k1,k2,f1,f2⟩
theorem Qe0 {W:World} {a:Addr} {len m k:Nat} {α:Type} {R:World→Nat→List Value→α→Prop} (d:α) (P:α→Prop) (hk:0<k) (hl:len≤m)
    (each:∀ i,i<len→∃ r x,W.cells? 0 (a.add (i*k)) k=some r∧r.length=k∧R W W.heap.size r x∧P x):∃ l:List α,Qt R k W W.heap.size (.slice (some a) len m) l∧(∀ x∈l,P x)∧l.length=len:=by
  haveI:Inhabited { p:List Value×α // p.1.length=k }:=⟨⟨(List.replicate k undef,d),by simp⟩⟩
  obtain ⟨l,h1,h2,h3⟩:=QgK (W:=W) (a:=a) (len:=len) (m:=m) (k:=k) (fun p:{ p:List Value×α // p.1.length=k }=>p.1.1) (fun p=>R W W.heap.size p.1.1 p.1.2∧P p.1.2) hk (fun p=>p.2) hl (fun i hi=>by
    obtain ⟨r,x,g1,g2,g3⟩:=each i hi
    exact ⟨⟨(r,x),g2⟩,g1,g3⟩)
  refine ⟨l.map (fun p=>p.1.2),⟨_,by simp,h1,fun i r x hr hx=>?_⟩,fun x hx=>?_,by simpa using h3⟩
  · rw [Bs] at hr hx
    cases e:l[i]? with
    | none=>rw [e] at hr;simp at hr
    | some p =>
      rw [e] at hr hx;simp at hr hx;subst hr hx;exact (h2 p (Bn e)).1
  · obtain ⟨p,hp,rfl⟩:=BC.1 hx
    exact (h2 p hp).2
theorem QpL {H:Type} {enc:TypeId×Value→H} {W:World} {e:Nat} {c0 c1 c2 c3:Value} {x:DataW H×List MemPlace}
    (hf:DataW.trod enc prog W 0 (fun _=>true) true e 82 [c0,c1,c2,c3]=some x) (_hsz:∀ y∈x.1.weights prog 82,y≤reachBytes) :
    ∃ q:Cn,CnR W W.heap.size [c0,c1,c2,c3] q∧True:=by
  obtain ⟨xs,n',_,hd,_,j,b⟩:=Cb underlying82 hf;have ei:prog.cellsOf 3=1:=by kernel_rfl
  match xs,j with
  | [y0,y1,y2,y3],_ =>
    have t0:DataW.trod enc prog W 0 (fun _=>true) true n' 3 [c0]=some y0:=by
      have:=b 0 _ rfl;simpa [ei] using this
    have t1:DataW.trod enc prog W 0 (fun _=>true) true n' 3 [c1]=some y1:=by
      have:=b 1 _ rfl;simpa [ei] using this
    have t2:DataW.trod enc prog W 0 (fun _=>true) true n' 3 [c2]=some y2:=by
      have:=b 2 _ rfl;simpa [ei] using this
    have t3:DataW.trod enc prog W 0 (fun _=>true) true n' 3 [c3]=some y3:=by
      have:=b 3 _ rfl;simpa [ei] using this
    obtain ⟨z0,g0,_⟩:=Bz underlying3 t0;obtain rfl:c0=Bb z0:=by simp_all
    obtain ⟨z1,g1,_⟩:=Bz underlying3 t1;obtain rfl:c1=Bb z1:=by simp_all
    obtain ⟨z2,g2,_⟩:=Bz underlying3 t2;obtain rfl:c2=Bb z2:=by simp_all
    obtain ⟨z3,g3,_⟩:=Bz underlying3 t3;obtain rfl:c3=Bb z3:=by simp_all
    exact ⟨⟨z0,z1,z2,z3⟩,rfl,trivial⟩
theorem QpD {H:Type} {enc:TypeId×Value→H} {W:World} {e:Nat} {c0 c1 c2 c3 c4 c5 c6:Value} {x:DataW H×List MemPlace}
    (hf:DataW.trod enc prog W 0 (fun _=>true) true e 86 [c0,c1,c2,c3,c4,c5,c6]=some x) (_hsz:∀ y∈x.1.weights prog 86,y≤reachBytes) :
    ∃ q:Ch,ChR W W.heap.size [c0,c1,c2,c3,c4,c5,c6] q∧True:=by
  obtain ⟨xs,n',_,hd,_,j,b⟩:=Cb underlying86 hf;have eb:prog.cellsOf 4=1:=by kernel_rfl
  have ei:prog.cellsOf 3=1:=by kernel_rfl
  match xs,j with
  | [y0,y1,y2,y3,y4,y5,y6],_ =>
    have t0:DataW.trod enc prog W 0 (fun _=>true) true n' 3 [c0]=some y0:=by
      have:=b 0 _ rfl;simpa [eb,ei] using this
    have t1:DataW.trod enc prog W 0 (fun _=>true) true n' 4 [c1]=some y1:=by
      have:=b 1 _ rfl;simpa [eb,ei] using this
    have t2:DataW.trod enc prog W 0 (fun _=>true) true n' 3 [c2]=some y2:=by
      have:=b 2 _ rfl;simpa [eb,ei] using this
    have t3:DataW.trod enc prog W 0 (fun _=>true) true n' 3 [c3]=some y3:=by
      have:=b 3 _ rfl;simpa [eb,ei] using this
    have t4:DataW.trod enc prog W 0 (fun _=>true) true n' 3 [c4]=some y4:=by
      have:=b 4 _ rfl;simpa [eb,ei] using this
    have t5:DataW.trod enc prog W 0 (fun _=>true) true n' 3 [c5]=some y5:=by
      have:=b 5 _ rfl;simpa [eb,ei] using this
    have t6:DataW.trod enc prog W 0 (fun _=>true) true n' 3 [c6]=some y6:=by
      have:=b 6 _ rfl;simpa [eb,ei] using this
    obtain ⟨z0,g0,_⟩:=Bz underlying3 t0;obtain rfl:c0=Bb z0:=by simp_all
    obtain ⟨z1,g1,_⟩:=DU underlying4 t1;obtain rfl:c1=.bool z1:=by simp_all
    obtain ⟨z2,g2,_⟩:=Bz underlying3 t2;obtain rfl:c2=Bb z2:=by simp_all
    obtain ⟨z3,g3,_⟩:=Bz underlying3 t3;obtain rfl:c3=Bb z3:=by simp_all
    obtain ⟨z4,g4,_⟩:=Bz underlying3 t4;obtain rfl:c4=Bb z4:=by simp_all
    obtain ⟨z5,g5,_⟩:=Bz underlying3 t5;obtain rfl:c5=Bb z5:=by simp_all
    obtain ⟨z6,g6,_⟩:=Bz underlying3 t6;obtain rfl:c6=Bb z6:=by simp_all
    exact ⟨⟨z0,z1,z2,z3,z4,z5,z6⟩,rfl,trivial⟩
theorem Qqo {H:Type} {enc:TypeId×Value→H} {W:World} {e:Nat} {c0 c1 c2:Value} {x:DataW H×List MemPlace}
    (hf:DataW.trod enc prog W 0 (fun _=>true) true e 90 [c0,c1,c2]=some x) (A:∀ y∈x.1.weights prog 90,y≤reachBytes) :
    ∃ q:Mk,MkR W W.heap.size [c0,c1,c2] q∧q.fits:=by
  obtain ⟨xs,n',_,hd,_,j,b⟩:=Cb underlying90 hf;have ei:prog.cellsOf 3=1:=by kernel_rfl
  have ey:prog.cellsOf 29=1:=by kernel_rfl
  match xs,j with
  | [y0,y1,y2],_ =>
    have t0:DataW.trod enc prog W 0 (fun _=>true) true n' 3 [c0]=some y0:=by
      have:=b 0 _ rfl;simpa [ei] using this
    have t1:DataW.trod enc prog W 0 (fun _=>true) true n' 3 [c1]=some y1:=by
      have:=b 1 _ rfl;simpa [ei] using this
    have t2:DataW.trod enc prog W 0 (fun _=>true) true n' 29 [c2]=some y2:=by
      have:=b 2 _ rfl;simpa [ey] using this
    have hw:∀ y,y∈y2.1.weights prog 29→y≤reachBytes:=fun y hy=>A y (by
      rw [hd];simp only [DataW.weights];simp [DataW.weightsEach]
      exact (.inr (.inr hy)))
    obtain ⟨z0,g0,_⟩:=Bz underlying3 t0;obtain rfl:c0=Bb z0:=by simp_all
    obtain ⟨z1,g1,_⟩:=Bz underlying3 t1;obtain rfl:c1=Bb z1:=by simp_all
    obtain ⟨l2,m,z⟩:=Ju t2 (fun y hy=>hw y hy)
    exact ⟨⟨z0,z1,l2⟩,⟨c2,rfl,m⟩,z⟩
theorem QqC {H:Type} {enc:TypeId×Value→H} {W:World} {e:Nat} {c0 c1 c2:Value} {x:DataW H×List MemPlace}
    (hf:DataW.trod enc prog W 0 (fun _=>true) true e 70 [c0,c1,c2]=some x) (A:∀ y∈x.1.weights prog 70,y≤reachBytes) :
    ∃ q:Pu,PuR W W.heap.size [c0,c1,c2] q∧q.fits:=by
  obtain ⟨xs,n',_,hd,_,j,b⟩:=Cb underlying70 hf;have es:prog.cellsOf 9=1:=by kernel_rfl
  have eu:prog.cellsOf 47=1:=by kernel_rfl
  match xs,j with
  | [y0,y1,y2],_ =>
    have t0:DataW.trod enc prog W 0 (fun _=>true) true n' 9 [c0]=some y0:=by
      have:=b 0 _ rfl;simpa [es,eu] using this
    have t1:DataW.trod enc prog W 0 (fun _=>true) true n' 9 [c1]=some y1:=by
      have:=b 1 _ rfl;simpa [es,eu] using this
    have t2:DataW.trod enc prog W 0 (fun _=>true) true n' 47 [c2]=some y2:=by
      have:=b 2 _ rfl;simpa [es,eu] using this
    have hw:∀ y,y∈y0.1.weights prog 9∨y∈y1.1.weights prog 9→y≤reachBytes:=fun y hy=>A y (by
      rw [hd];simp only [DataW.weights,underlying70];simp [DataW.weightsEach]
      rcases hy with hy | hy
      · simp_all
      · exact (.inr (.inl hy)))
    obtain ⟨s0,g0,q0,_⟩:=C8 underlying9 t0;obtain rfl:c0=.string s0:=by simp_all
    have m:s0.size≤140737488351232:=by
      have:=hw s0.size ((fun hy=>(.inl hy)) (by rw [q0];simp [DataW.weights]))
      simpa [reachBytes] using this
    obtain ⟨s1,g1,q1,_⟩:=C8 underlying9 t1;obtain rfl:c1=.string s1:=by simp_all
    have z:s1.size≤140737488351232:=by
      have:=hw s1.size ((fun hy=>(.inr hy)) (by rw [q1];simp [DataW.weights]))
      simpa [reachBytes] using this
    obtain ⟨z2,g2,_,f2⟩:=Bz underlying47 t2;obtain ⟨n2,rfl,b2⟩:=QfR f2;obtain rfl:c2=.int .u64 n2:=by simp_all
    exact ⟨⟨s0,s1,n2⟩,rfl,m,z,b2⟩
theorem Qnu {H:Type} {enc:TypeId×Value→H} {W:World} {j:Nat} {v:Value} {x:DataW H×List MemPlace}
    (hf:DataW.trod enc prog W 0 (fun _=>true) true j 23 [v]=some x) (z:∀ y∈x.1.weights prog 23,y≤reachBytes) :
    ∃ l:List Cn,Qt CnR 4 W W.heap.size v l∧(∀ q∈l,True)∧l.length<2305843009213693952:=by
  rcases Deep.open_slice underlying23 hf with ⟨b,_⟩ | ⟨a,len,e,m,n,D,Pl,b,_,hl,hm,hmm,hx,I⟩
  · obtain rfl:v=Bc:=by simpa using b
    exact ⟨[],Qt.nil _ _ _ _,fun _ h=>(by cases h),by simp⟩
  · obtain rfl:v=.slice (some a) len e:=by simpa using b
    have L:m=e:=by assumption
    subst L;have E:prog.cellsOf 82=4:=by kernel_rfl
    have C:prog.bytesOf 82=32:=by kernel_rfl
    have hlen:len<2305843009213693952:=by
      have:=z ((len+(m-len))*32) (by rw [hx];simp [DataW.weights,underlying23,C])
      simp only [reachBytes] at this;omega
    obtain ⟨l,h1,h2,h3⟩:=Qe0 (W:=W) (a:=a) (len:=len) (m:=m) (k:=4) (R:=CnR) ⟨0,0,0,0⟩ (fun q=>True) (by omega) hl (fun i hi=>by
      obtain ⟨A,g1,g2⟩:=I i (by omega)
      rw [E] at g1;obtain ⟨_,G,_⟩:=CU g1
      match A,G with
      | [c0,c1,c2,c3],_ =>
        obtain ⟨q,hq,_⟩:=QpL g2 (fun y hy=>z y (by
          rw [hx];simp only [DataW.weights,underlying23,Bo,Bw]
          exact .inr (.inl (JL _ _ _ (D i) (BC.2 ⟨i,Ce.2 hi,rfl⟩) y hy))))
        exact ⟨_,q,g1,rfl,hq,trivial⟩)
    exact ⟨l,h1,h2,by omega⟩
theorem Qnp {H:Type} {enc:TypeId×Value→H} {W:World} {j:Nat} {v:Value} {x:DataW H×List MemPlace}
    (hf:DataW.trod enc prog W 0 (fun _=>true) true j 24 [v]=some x) (z:∀ y∈x.1.weights prog 24,y≤reachBytes) :
    ∃ l:List Ch,Qt ChR 7 W W.heap.size v l∧(∀ q∈l,True)∧l.length<2305843009213693952:=by
  rcases Deep.open_slice underlying24 hf with ⟨b,_⟩ | ⟨a,len,e,m,n,D,Pl,b,_,hl,hm,hmm,hx,I⟩
  · obtain rfl:v=Bc:=by simpa using b
    exact ⟨[],Qt.nil _ _ _ _,fun _ h=>(by cases h),by simp⟩
  · obtain rfl:v=.slice (some a) len e:=by simpa using b
    have L:m=e:=by assumption
    subst L;have E:prog.cellsOf 86=7:=by kernel_rfl
    have C:prog.bytesOf 86=56:=by kernel_rfl
    have hlen:len<2305843009213693952:=by
      have:=z ((len+(m-len))*56) (by rw [hx];simp [DataW.weights,underlying24,C])
      simp only [reachBytes] at this;omega
    obtain ⟨l,h1,h2,h3⟩:=Qe0 (W:=W) (a:=a) (len:=len) (m:=m) (k:=7) (R:=ChR) ⟨0,false,0,0,0,0,0⟩ (fun q=>True) (by omega) hl (fun i hi=>by
      obtain ⟨A,g1,g2⟩:=I i (by omega)
      rw [E] at g1;obtain ⟨_,G,_⟩:=CU g1
      match A,G with
      | [c0,c1,c2,c3,c4,c5,c6],_ =>
        obtain ⟨q,hq,_⟩:=QpD g2 (fun y hy=>z y (by
          rw [hx];simp only [DataW.weights,underlying24,Bo,Bw]
          exact .inr (.inl (JL _ _ _ (D i) (BC.2 ⟨i,Ce.2 hi,rfl⟩) y hy))))
        exact ⟨_,q,g1,rfl,hq,trivial⟩)
    exact ⟨l,h1,h2,by omega⟩
theorem Qen {H:Type} {enc:TypeId×Value→H} {W:World} {j:Nat} {v:Value} {x:DataW H×List MemPlace}
    (hf:DataW.trod enc prog W 0 (fun _=>true) true j 25 [v]=some x) (z:∀ y∈x.1.weights prog 25,y≤reachBytes) :
    ∃ l:List Mk,Qt MkR 3 W W.heap.size v l∧(∀ q∈l,q.fits)∧l.length<2305843009213693952:=by
  rcases Deep.open_slice underlying25 hf with ⟨b,_⟩ | ⟨a,len,e,m,n,D,Pl,b,_,hl,hm,hmm,hx,I⟩
  · obtain rfl:v=Bc:=by simpa using b
    exact ⟨[],Qt.nil _ _ _ _,fun _ h=>(by cases h),by simp⟩
  · obtain rfl:v=.slice (some a) len e:=by simpa using b
    have L:m=e:=by assumption
    subst L;have E:prog.cellsOf 90=3:=by kernel_rfl
    have C:prog.bytesOf 90=40:=by kernel_rfl
    have hlen:len<2305843009213693952:=by
      have:=z ((len+(m-len))*40) (by rw [hx];simp [DataW.weights,underlying25,C])
      simp only [reachBytes] at this;omega
    obtain ⟨l,h1,h2,h3⟩:=Qe0 (W:=W) (a:=a) (len:=len) (m:=m) (k:=3) (R:=MkR) ⟨0,0,[]⟩ (fun q=>q.fits) (by omega) hl (fun i hi=>by
      obtain ⟨A,g1,g2⟩:=I i (by omega)
      rw [E] at g1;obtain ⟨_,G,_⟩:=CU g1
      match A,G with
      | [c0,c1,c2],_ =>
        obtain ⟨q,hq,M⟩:=Qqo g2 (fun y hy=>z y (by
          rw [hx];simp only [DataW.weights,underlying25,Bo,Bw]
          exact .inr (.inl (JL _ _ _ (D i) (BC.2 ⟨i,Ce.2 hi,rfl⟩) y hy))))
        exact ⟨_,q,g1,rfl,hq,M⟩)
    exact ⟨l,h1,h2,by omega⟩
theorem Qmv {H:Type} {enc:TypeId×Value→H} {W:World} {j:Nat} {v:Value} {x:DataW H×List MemPlace}
    (hf:DataW.trod enc prog W 0 (fun _=>true) true j 26 [v]=some x) (z:∀ y∈x.1.weights prog 26,y≤reachBytes) :
    ∃ l:List Pu,Qt PuR 3 W W.heap.size v l∧(∀ q∈l,q.fits)∧l.length<2305843009213693952:=by
  rcases Deep.open_slice underlying26 hf with ⟨b,_⟩ | ⟨a,len,e,m,n,D,Pl,b,_,hl,hm,hmm,hx,I⟩
  · obtain rfl:v=Bc:=by simpa using b
    exact ⟨[],Qt.nil _ _ _ _,fun _ h=>(by cases h),by simp⟩
  · obtain rfl:v=.slice (some a) len e:=by simpa using b
    have L:m=e:=by assumption
    subst L;have E:prog.cellsOf 70=3:=by kernel_rfl
    have C:prog.bytesOf 70=40:=by kernel_rfl
    have hlen:len<2305843009213693952:=by
      have:=z ((len+(m-len))*40) (by rw [hx];simp [DataW.weights,underlying26,C])
      simp only [reachBytes] at this;omega
    obtain ⟨l,h1,h2,h3⟩:=Qe0 (W:=W) (a:=a) (len:=len) (m:=m) (k:=3) (R:=PuR) ⟨⟨#[]⟩,⟨#[]⟩,0⟩ (fun q=>q.fits) (by omega) hl (fun i hi=>by
      obtain ⟨A,g1,g2⟩:=I i (by omega)
      rw [E] at g1;obtain ⟨_,G,_⟩:=CU g1
      match A,G with
      | [c0,c1,c2],_ =>
        obtain ⟨q,hq,M⟩:=QqC g2 (fun y hy=>z y (by
          rw [hx];simp only [DataW.weights,underlying26,Bo,Bw]
          exact .inr (.inl (JL _ _ _ (D i) (BC.2 ⟨i,Ce.2 hi,rfl⟩) y hy))))
        exact ⟨_,q,g1,rfl,hq,M⟩)
    exact ⟨l,h1,h2,by omega⟩
theorem Qkq {H:Type} {enc:TypeId×Value→H} {W:World} {j:Nat} {v:Value} {x:DataW H×List MemPlace}
    (hf:DataW.trod enc prog W 0 (fun _=>true) true j 22 [v]=some x) (z:∀ y∈x.1.weights prog 22,y≤reachBytes) :
    ∃ l:List Cl,Qt ClR 4 W W.heap.size v l∧(∀ q∈l,q.fits)∧l.length<2305843009213693952:=by
  rcases Deep.open_slice underlying22 hf with ⟨b,_⟩ | ⟨a,len,e,m,n,D,Pl,b,_,hl,hm,hmm,hx,I⟩
  · obtain rfl:v=Bc:=by simpa using b
    exact ⟨[],Qt.nil _ _ _ _,fun _ h=>(by cases h),by simp⟩
  · obtain rfl:v=.slice (some a) len e:=by simpa using b
    have L:m=e:=by assumption
    subst L;have E:prog.cellsOf 78=4:=by kernel_rfl
    have C:prog.bytesOf 78=56:=by kernel_rfl
    have hlen:len<2305843009213693952:=by
      have:=z ((len+(m-len))*56) (by rw [hx];simp [DataW.weights,underlying22,C])
      simp only [reachBytes] at this;omega
    obtain ⟨l,h1,h2,h3⟩:=Qe0 (W:=W) (a:=a) (len:=len) (m:=m) (k:=4) (R:=ClR) Cl.none (fun q=>q.fits) (by omega) hl (fun i hi=>by
      obtain ⟨A,g1,g2⟩:=I i (by omega)
      rw [E] at g1;obtain ⟨_,G,_⟩:=CU g1
      match A,G with
      | [c0,c1,c2,c3],_ =>
        obtain ⟨q,rfl,rfl,rfl,hq,M⟩:=Qkp g2 (fun y hy=>z y (by
          rw [hx];simp only [DataW.weights,underlying22,Bo,Bw]
          exact .inr (.inl (JL _ _ _ (D i) (BC.2 ⟨i,Ce.2 hi,rfl⟩) y hy))))
        exact ⟨_,q,g1,rfl,⟨c3,rfl,hq⟩,M⟩)
    exact ⟨l,h1,h2,by omega⟩
theorem Qnn:prog.cellsOf 28=10:=by kernel_rfl
theorem Qom {H:Type} {enc:TypeId×Value→H} {W:World} {base:Nat} {v:Value} {d:DataW H} {p:List MemPlace}
    (A:Value.okWide prog W .any base 28 v) (h:DataW.Trod enc prog W 0 (fun _=>true) true 28 v d p) (j:∀ y∈d.weights prog 28,y≤reachBytes) :
    ∃ g:St,StV W W.heap.size v g∧g.fits:=by
  obtain ⟨cs,rfl,q⟩:=okWide_struct underlying28 A;rw [Qnn] at q;obtain ⟨l⟩:=cs
  match l,q with
  | [c0,c1,c2,c3,c4,c5,c6,c7,c8,c9],_ =>
    obtain ⟨m,hf⟩:=h;have hf':DataW.trod enc prog W 0 (fun _=>true) true m 28 [c0,c1,c2,c3,c4,c5,c6,c7,c8,c9]=some (d,p):=hf
    obtain ⟨xs,n',_,hd,_,z,b⟩:=Cb underlying28 hf';have e1:prog.cellsOf 9=1:=by kernel_rfl
    have e2:prog.cellsOf 3=1:=by kernel_rfl
    have e3:prog.cellsOf 22=1:=by kernel_rfl
    have e4:prog.cellsOf 23=1:=by kernel_rfl
    have e5:prog.cellsOf 24=1:=by kernel_rfl
    have e6:prog.cellsOf 25=1:=by kernel_rfl
    have e7:prog.cellsOf 26=1:=by kernel_rfl
    match xs,z with
    | [y0,y1,y2,y3,y4,y5,y6,y7,y8,y9],_ =>
      have t0:DataW.trod enc prog W 0 (fun _=>true) true n' 9 [c0]=some y0:=by
        have:=b 0 _ rfl;simpa [e1,e2,e3,e4,e5,e6,e7] using this
      have t1:DataW.trod enc prog W 0 (fun _=>true) true n' 3 [c1]=some y1:=by
        have:=b 1 _ rfl;simpa [e1,e2,e3,e4,e5,e6,e7] using this
      have t2:DataW.trod enc prog W 0 (fun _=>true) true n' 3 [c2]=some y2:=by
        have:=b 2 _ rfl;simpa [e1,e2,e3,e4,e5,e6,e7] using this
      have t3:DataW.trod enc prog W 0 (fun _=>true) true n' 22 [c3]=some y3:=by
        have:=b 3 _ rfl;simpa [e1,e2,e3,e4,e5,e6,e7] using this
      have t4:DataW.trod enc prog W 0 (fun _=>true) true n' 23 [c4]=some y4:=by
        have:=b 4 _ rfl;simpa [e1,e2,e3,e4,e5,e6,e7] using this
      have t5:DataW.trod enc prog W 0 (fun _=>true) true n' 24 [c5]=some y5:=by
        have:=b 5 _ rfl;simpa [e1,e2,e3,e4,e5,e6,e7] using this
      have t6:DataW.trod enc prog W 0 (fun _=>true) true n' 25 [c6]=some y6:=by
        have:=b 6 _ rfl;simpa [e1,e2,e3,e4,e5,e6,e7] using this
      have t7:DataW.trod enc prog W 0 (fun _=>true) true n' 25 [c7]=some y7:=by
        have:=b 7 _ rfl;simpa [e1,e2,e3,e4,e5,e6,e7] using this
      have t8:DataW.trod enc prog W 0 (fun _=>true) true n' 25 [c8]=some y8:=by
        have:=b 8 _ rfl;simpa [e1,e2,e3,e4,e5,e6,e7] using this
      have t9:DataW.trod enc prog W 0 (fun _=>true) true n' 26 [c9]=some y9:=by
        have:=b 9 _ rfl;simpa [e1,e2,e3,e4,e5,e6,e7] using this
      have e:d=.agg [y0.1,y1.1,y2.1,y3.1,y4.1,y5.1,y6.1,y7.1,y8.1,y9.1]:=Bl Prod.fst hd
      have w0:∀ y∈y0.1.weights prog 9,y≤reachBytes:=fun y hy=>j y (by
        rw [e];simp only [DataW.weights,underlying28];simp [DataW.weightsEach]
        exact (.inl hy))
      have w3:∀ y∈y3.1.weights prog 22,y≤reachBytes:=fun y hy=>j y (by
        rw [e];simp only [DataW.weights,underlying28];simp [DataW.weightsEach]
        exact (.inr (.inr (.inr (.inl hy)))))
      have w4:∀ y∈y4.1.weights prog 23,y≤reachBytes:=fun y hy=>j y (by
        rw [e];simp only [DataW.weights,underlying28];simp [DataW.weightsEach]
        exact (.inr (.inr (.inr (.inr (.inl hy))))))
      have w5:∀ y∈y5.1.weights prog 24,y≤reachBytes:=fun y hy=>j y (by
        rw [e];simp only [DataW.weights,underlying28];simp [DataW.weightsEach]
        exact (.inr (.inr (.inr (.inr (.inr (.inl hy)))))))
      have w6:∀ y∈y6.1.weights prog 25,y≤reachBytes:=fun y hy=>j y (by
        rw [e];simp only [DataW.weights,underlying28];simp [DataW.weightsEach]
        exact (.inr (.inr (.inr (.inr (.inr (.inr (.inl hy))))))))
      have w7:∀ y∈y7.1.weights prog 25,y≤reachBytes:=fun y hy=>j y (by
        rw [e];simp only [DataW.weights,underlying28];simp [DataW.weightsEach]
        exact (.inr (.inr (.inr (.inr (.inr (.inr (.inr (.inl hy)))))))))
      have w8:∀ y∈y8.1.weights prog 25,y≤reachBytes:=fun y hy=>j y (by
        rw [e];simp only [DataW.weights,underlying28];simp [DataW.weightsEach]
        exact (.inr (.inr (.inr (.inr (.inr (.inr (.inr (.inr (.inl hy))))))))))
      have w9:∀ y∈y9.1.weights prog 26,y≤reachBytes:=fun y hy=>j y (by
        rw [e];simp only [DataW.weights,underlying28];simp [DataW.weightsEach]
        exact (.inr (.inr (.inr (.inr (.inr (.inr (.inr (.inr (.inr hy))))))))))
      obtain ⟨s,g0,q0,_⟩:=C8 underlying9 t0;obtain ⟨z1,g1,_⟩:=Bz underlying3 t1;obtain ⟨z2,g2,_⟩:=Bz underlying3 t2;obtain rfl:c0=.string s:=by simpa using g0
      obtain rfl:c1=Bb z1:=by simpa using g1
      obtain rfl:c2=Bb z2:=by simpa using g2
      have hs:s.size≤140737488351232:=by
        have:=w0 s.size (by rw [q0];simp [DataW.weights])
        simpa [reachBytes] using this
      obtain ⟨l3,m3,f3,n3⟩:=Qkq t3 w3;obtain ⟨l4,m4,_,n4⟩:=Qnu t4 w4;obtain ⟨l5,m5,_,n5⟩:=Qnp t5 w5;obtain ⟨l6,m6,f6,n6⟩:=Qen t6 w6;obtain ⟨l7,m7,f7,n7⟩:=Qen t7 w7;obtain ⟨l8,m8,f8,n8⟩:=Qen t8 w8;obtain ⟨l9,m9,f9,n9⟩:=Qmv t9 w9;exact ⟨⟨s,z1,z2,l3,l4,l5,l6,l7,l8,l9⟩,⟨c3,c4,c5,c6,c7,c8,c9,rfl,m3,m4,m5,m6,m7,m8,m9⟩,hs,⟨n3,f3⟩,n4,n5,⟨n6,f6⟩,⟨n7,f7⟩,⟨n8,f8⟩,n9,f9⟩
theorem Qpp (b e i:Nat):(⟨b,e,none⟩:Addr).add i=⟨b,e+i,none⟩:=by unfold Addr.add;split <;> simp_all
theorem J8 {H:Type} {enc:TypeId×Value→H} {W:World} {j:Nat} {v:Value} {x:DataW H×List MemPlace}
    (hf:DataW.trod enc prog W 0 (fun _=>true) true j 29 [v]=some x) (m:∀ y∈x.1.weights prog 29,y≤reachBytes) :
    ∃ l,Bytes W W.heap.size v l∧l.length≤140737488351232:=by
  rcases open_ints underlying29 underlying5 (by kernel_rfl) hf with ⟨b,_⟩ | ⟨a,len,e,zs,b,_⟩
  · obtain rfl:v=Bc:=by simpa using b
    exact ⟨[],.inl ⟨rfl,rfl⟩,by simp⟩
  · obtain rfl:v=.slice (some a) len e:=by simpa using b
    refine QcU (a0:=some a) (len0:=len) (cap0:=e) (x:=x) hf (fun elems spare he=>?_)
    refine m _ ?_;rw [he];simp [DataW.weights,underlying29]
theorem QfX {H:Type} (P:Program) (e:TypeId) (l:List (DataW H)) (d:DataW H) (hd:d∈l) (y:Nat) (hy:y∈d.weights P e):y∈DataW.weightsAll P e l:=by
  induction l with
  | nil=>simp at hd
  | cons a r ih =>
    simp only [DataW.weightsAll,Bw]
    rcases Bo.1 hd with rfl | h
    · exact .inl hy
    · exact .inr (ih h)
theorem Qpo (a:Addr):a.add 0=a:=by unfold Addr.add;split <;> simp_all
theorem QfN {H:Type} {enc:TypeId×Value→H} {W:World} {A:Nat} {v:Value} {x:DataW H×List MemPlace}
    (hf:DataW.trod enc prog W 0 (fun _=>true) true A 40 [v]=some x) (G:∀ y∈x.1.weights prog 40,y≤reachBytes) :
    ∃ l,Jz W W.heap.size v l∧(∀ d∈l,d.length≤140737488351232)∧l.length<2305843009213693952:=by
  rcases Deep.open_slice underlying40 hf with ⟨e,_⟩ | ⟨a,len,z,m,n,D,Pl,e,_,hl,hm,aC,hx,Y⟩
  · obtain rfl:v=Bc:=by simpa using e
    exact ⟨[],.inl ⟨rfl,rfl⟩,by simp,by simp⟩
  · obtain rfl:v=.slice (some a) len z:=by simpa using e
    have aB:m=z:=by simpa using aC
    subst aB;have O:prog.cellsOf 29=1:=by kernel_rfl
    have C:prog.bytesOf 29=24:=by kernel_rfl
    have E:len<2305843009213693952:=by
      have:=G ((len+(m-len))*24) (by rw [hx];simp [DataW.weights,underlying40,C])
      simp only [reachBytes] at this;omega
    have each:∀ i,i<len→∃ p:Value×Bg,W.cell? (a.add (i*1))=some p.1∧Bytes W W.heap.size p.1 p.2∧p.2.length≤140737488351232:=fun i hi=>by
      obtain ⟨L,h1,h2⟩:=Y i (by omega)
      rw [O] at h1;obtain ⟨_,T,S⟩:=CU h1
      match L,T with
      | [c0],_ =>
        have g0:=S 0 (by omega)
        rw [Qpo] at g0
        obtain ⟨l0,M,aA⟩:=J8 h2 (fun y hy=>G y (by
          rw [hx];simp only [DataW.weights,underlying40,Bo,Bw]
          exact .inr (.inl (QfX _ _ _ (D i) (BC.2 ⟨i,Ce.2 hi,rfl⟩) y hy))))
        exact ⟨(c0,l0),g0,M,aA⟩
    haveI:Inhabited (Value×Bg):=⟨(undef,[])⟩
    obtain ⟨f,j⟩:=Deep.choose_lt each;refine ⟨(List.range len).map fun i=>(f i).2,?_,?_,by simpa using E⟩
    · by_cases h0:len=0
      · subst h0
        exact .inr (.inl ⟨a,m,rfl,rfl⟩)
      · obtain ⟨b,aD,I⟩:=a
        have hc:=(j 0 (by omega)).1
        have q:I=none:=by simpa [Addr.add] using World.cell?_spot hc
        subst q;refine .inr (.inr ⟨b,aD,m,by simp,by simpa using hl,fun i hi=>?_⟩)
        have hi':i<len:=by simpa using hi
        obtain ⟨h1,h2,_⟩:=j i hi';rw [Qpp,Dm] at h1;refine ⟨CE h1,(f i).1,h1,?_⟩;rw [show ((List.range len).map fun i=>(f i).2).getD i []=(f i).2 by simp [hi']]
        exact h2
    · intro p hp
      obtain ⟨i,hi,rfl⟩:=BC.1 hp;exact (j i (Ce.1 hi)).2.2
theorem Qda {H:Type} {enc:TypeId×Value→H} {W:World} {e:Nat} {c0 c1 c2 c3 c4:Value} {x:DataW H×List MemPlace}
    (hf:DataW.trod enc prog W 0 (fun _=>true) true e 42 [c0,c1,c2,c3,c4]=some x) (G:∀ y∈x.1.weights prog 42,y≤reachBytes) :
    ∃ p:Prf,c0=Bb p.index∧c1=Bb p.size∧Bytes W W.heap.size c2 p.key∧Bytes W W.heap.size c3 p.val∧Jz W W.heap.size c4 p.path∧p.fits:=by
  obtain ⟨xs,n',_,hd,_,j,b⟩:=Cb underlying42 hf;have e1:prog.cellsOf 3=1:=by kernel_rfl
  have e3:prog.cellsOf 29=1:=by kernel_rfl
  have e4:prog.cellsOf 40=1:=by kernel_rfl
  match xs,j with
  | [y0,y1,y2,y3,y4],_ =>
    have t0:DataW.trod enc prog W 0 (fun _=>true) true n' 3 [c0]=some y0:=by
      have:=b 0 _ rfl;simpa [e1] using this
    have t1:DataW.trod enc prog W 0 (fun _=>true) true n' 3 [c1]=some y1:=by
      have:=b 1 _ rfl;simpa [e1] using this
    have t2:DataW.trod enc prog W 0 (fun _=>true) true n' 29 [c2]=some y2:=by
      have:=b 2 _ rfl;simpa [e3] using this
    have t3:DataW.trod enc prog W 0 (fun _=>true) true n' 29 [c3]=some y3:=by
      have:=b 3 _ rfl;simpa [e3] using this
    have t4:DataW.trod enc prog W 0 (fun _=>true) true n' 40 [c4]=some y4:=by
      have:=b 4 _ rfl;simpa [e4] using this
    have hw:∀ y,y∈y2.1.weights prog 29∨y∈y3.1.weights prog 29∨y∈y4.1.weights prog 40→y≤reachBytes:=fun y hy=>G y (by
      rw [hd];simp only [DataW.weights,underlying42];simp [DataW.weightsEach]
      rcases hy with hy | hy | hy
      · exact .inr (.inr (.inl hy))
      · exact .inr (.inr (.inr (.inl hy)))
      · exact .inr (.inr (.inr (.inr hy))))
    obtain ⟨l2,m,C⟩:=J8 t2 (fun y hy=>hw y (.inl hy))
    obtain ⟨l3,q,D⟩:=J8 t3 (fun y hy=>hw y (.inr (.inl hy)))
    obtain ⟨l4,z,A,E⟩:=QfN t4 (fun y hy=>hw y (.inr (.inr hy)))
    obtain ⟨z0,g0,_⟩:=Bz underlying3 t0;obtain ⟨z1,g1,_⟩:=Bz underlying3 t1;obtain rfl:c0=Bb z0:=by simpa using g0
    obtain rfl:c1=Bb z1:=by simpa using g1
    exact ⟨⟨z0,z1,l2,l3,l4⟩,rfl,rfl,m,q,z,C,D,E,A⟩
theorem Qb8:prog.cellsOf 42=5:=by kernel_rfl
theorem Qrn:prog.cellsOf 44=12:=by kernel_rfl
theorem QpT {H:Type} {enc:TypeId×Value→H} {W:World} {e:Nat} {b0 b1 c0 c1 c2 c3 c4 d0 d1 d2 d3 d4:Value} {x:DataW H×List MemPlace}
    (hf:DataW.trod enc prog W 0 (fun _=>true) true e 44 [b0,b1,c0,c1,c2,c3,c4,d0,d1,d2,d3,d4]=some x) (m:∀ y∈x.1.weights prog 44,y≤reachBytes) :
    ∃ g:Gp,GpV W W.heap.size (.agg #[b0,b1,c0,c1,c2,c3,c4,d0,d1,d2,d3,d4]) g∧g.fits:=by
  obtain ⟨xs,n',_,hd,_,j,b⟩:=Cb underlying44 hf;have e1:prog.cellsOf 4=1:=by kernel_rfl
  match xs,j with
  | [y0,y1,y2,y3],_ =>
    have t0:DataW.trod enc prog W 0 (fun _=>true) true n' 4 [b0]=some y0:=by
      have:=b 0 _ rfl;simpa [e1] using this
    have t1:DataW.trod enc prog W 0 (fun _=>true) true n' 4 [b1]=some y1:=by
      have:=b 1 _ rfl;simpa [e1] using this
    have t2:DataW.trod enc prog W 0 (fun _=>true) true n' 42 [c0,c1,c2,c3,c4]=some y2:=by
      have:=b 2 _ rfl;simpa [Qb8] using this
    have t3:DataW.trod enc prog W 0 (fun _=>true) true n' 42 [d0,d1,d2,d3,d4]=some y3:=by
      have:=b 3 _ rfl;simpa [Qb8] using this
    have hw:∀ y,y∈y2.1.weights prog 42∨y∈y3.1.weights prog 42→y≤reachBytes:=fun y hy=>m y (by
      rw [hd];simp only [DataW.weights,underlying44];simp [DataW.weightsEach]
      rcases hy with hy | hy
      · exact .inr (.inr (.inl hy))
      · exact .inr (.inr (.inr hy)))
    obtain ⟨p,rfl,rfl,h2,h3,h4,h5⟩:=Qda t2 (fun y hy=>hw y (.inl hy))
    obtain ⟨q,rfl,rfl,k2,k3,k4,k5⟩:=Qda t3 (fun y hy=>hw y (.inr hy))
    obtain ⟨z0,g0,_⟩:=DU underlying4 t0;obtain ⟨z1,g1,_⟩:=DU underlying4 t1;obtain rfl:b0=.bool z0:=by simpa using g0
    obtain rfl:b1=.bool z1:=by simpa using g1
    exact ⟨⟨z0,z1,p,q⟩,⟨c2,c3,c4,d2,d3,d4,rfl,h2,h3,h4,k2,k3,k4⟩,h5,k5⟩
theorem QmL {H:Type} {enc:TypeId×Value→H} {W:World} {e:Nat} {a0 c0 c1 c2 c3 c4 b0 b1 d0 d1 d2 d3 d4 e0 e1 e2 e3 e4:Value} {x:DataW H×List MemPlace}
    (hf:DataW.trod enc prog W 0 (fun _=>true) true e 46 [a0,c0,c1,c2,c3,c4,b0,b1,d0,d1,d2,d3,d4,e0,e1,e2,e3,e4]=some x) (z:∀ y∈x.1.weights prog 46,y≤reachBytes) :
    ∃ g:Sh,ShV W W.heap.size (.agg #[a0,c0,c1,c2,c3,c4,b0,b1,d0,d1,d2,d3,d4,e0,e1,e2,e3,e4]) g∧g.fits:=by
  obtain ⟨xs,n',_,hd,_,q,b⟩:=Cb underlying46 hf;have i1:prog.cellsOf 3=1:=by kernel_rfl
  match xs,q with
  | [y0,y1,y2],_ =>
    have t0:DataW.trod enc prog W 0 (fun _=>true) true n' 3 [a0]=some y0:=by
      have:=b 0 _ rfl;simpa [i1] using this
    have t1:DataW.trod enc prog W 0 (fun _=>true) true n' 42 [c0,c1,c2,c3,c4]=some y1:=by
      have:=b 1 _ rfl;simpa [i1,Qb8] using this
    have t2:DataW.trod enc prog W 0 (fun _=>true) true n' 44 [b0,b1,d0,d1,d2,d3,d4,e0,e1,e2,e3,e4]=some y2:=by
      have:=b 2 _ rfl;simpa [i1,Qb8,Qrn] using this
    have hw:∀ y,y∈y1.1.weights prog 42∨y∈y2.1.weights prog 44→y≤reachBytes:=fun y hy=>z y (by
      rw [hd];simp only [DataW.weights,underlying46];simp [DataW.weightsEach]
      rcases hy with hy | hy
      · exact .inr (.inl hy)
      · exact .inr (.inr hy))
    obtain ⟨g1,rfl,rfl,h2,h3,h4,h5⟩:=Qda t1 (fun y hy=>hw y (.inl hy))
    obtain ⟨g2,j,k5⟩:=QpT t2 (fun y hy=>hw y (.inr hy))
    obtain ⟨z0,q0,_⟩:=Bz underlying3 t0;obtain rfl:a0=Bb z0:=by simpa using q0
    have m:=j;obtain ⟨k1,v1,p1,k2,v2,p2,eg,-⟩:=j;simp at eg;obtain ⟨rfl,rfl,rfl,rfl,rfl,rfl,rfl,rfl,rfl,rfl,rfl,rfl⟩:=eg;exact ⟨⟨z0,g1,g2⟩,⟨_,_,_,_,_,_,_,_,_,rfl,⟨_,_,_,rfl,h2,h3,h4⟩,m⟩,h5,k5⟩
theorem QkX {H:Type} {enc:TypeId×Value→H} {W:World} {e:Nat} {c0 c1 c2 c3 c4:Value} {x:DataW H×List MemPlace}
    (hf:DataW.trod enc prog W 0 (fun _=>true) true e 51 [c0,c1,c2,c3,c4]=some x) (z:∀ y∈x.1.weights prog 51,y≤reachBytes) :
    ∃ p:Pk,PkV W W.heap.size (.agg #[c0,c1,c2,c3,c4]) p∧p.fits:=by
  obtain ⟨xs,n',_,hd,_,j,b⟩:=Cb underlying51 hf;have e1:prog.cellsOf 3=1:=by kernel_rfl
  have e3:prog.cellsOf 29=1:=by kernel_rfl
  match xs,j with
  | [y0,y1,y2,y3,y4],_ =>
    have t0:DataW.trod enc prog W 0 (fun _=>true) true n' 3 [c0]=some y0:=by
      have:=b 0 _ rfl;simpa [e1] using this
    have t1:DataW.trod enc prog W 0 (fun _=>true) true n' 3 [c1]=some y1:=by
      have:=b 1 _ rfl;simpa [e1] using this
    have t2:DataW.trod enc prog W 0 (fun _=>true) true n' 3 [c2]=some y2:=by
      have:=b 2 _ rfl;simpa [e1] using this
    have t3:DataW.trod enc prog W 0 (fun _=>true) true n' 29 [c3]=some y3:=by
      have:=b 3 _ rfl;simpa [e1,e3] using this
    have t4:DataW.trod enc prog W 0 (fun _=>true) true n' 3 [c4]=some y4:=by
      have:=b 4 _ rfl;simpa [e1,e3] using this
    have hw:∀ y,y∈y3.1.weights prog 29→y≤reachBytes:=fun y hy=>z y (by
      rw [hd];simp only [DataW.weights,underlying51];simp [DataW.weightsEach]
      exact .inr (.inr (.inr (.inl hy))))
    obtain ⟨l3,m,q⟩:=J8 t3 hw;obtain ⟨z0,g0,_⟩:=Bz underlying3 t0;obtain ⟨z1,g1,_⟩:=Bz underlying3 t1;obtain ⟨z2,g2,_⟩:=Bz underlying3 t2;obtain ⟨z4,g4,_⟩:=Bz underlying3 t4;obtain rfl:c0=Bb z0:=by simpa using g0
    obtain rfl:c1=Bb z1:=by simpa using g1
    obtain rfl:c2=Bb z2:=by simpa using g2
    obtain rfl:c4=Bb z4:=by simpa using g4
    exact ⟨⟨z0,z1,z2,l3,z4⟩,⟨c3,rfl,m⟩,q⟩
theorem QmR {H:Type} {enc:TypeId×Value→H} {W:World} {base:Nat} {v:Value} {d:DataW H} {p:List MemPlace}
    (b:Value.okWide prog W .any base 9 v) (h:DataW.Trod enc prog W 0 (fun _=>true) true 9 v d p) (e:∀ y∈d.weights prog 9,y≤reachBytes):∃ s:ByteArray,v=.string s∧s.size≤140737488351232:=by
  obtain ⟨s,rfl,rfl,-,-⟩:=ChangeMaps.open_string underlying9 b h;refine ⟨s,rfl,?_⟩;have:=e s.size (by simp [DataW.weights])
  simpa [reachBytes] using this
theorem Qim {H:Type} {enc:TypeId×Value→H} {W:World} {e:Nat} {c0 c1 c2 c3:Value} {x:DataW H×List MemPlace}
    (hf:DataW.trod enc prog W 0 (fun _=>true) true e 49 [c0,c1,c2,c3]=some x) (C:∀ y∈x.1.weights prog 49,y≤reachBytes) :
    ∃ q:Tr,(.agg #[c0,c1,c2,c3]:Value)=.agg #[.string q.denom,.int .u64 (q.amount:Int),.string q.sender,.string q.reader]∧q.fits:=by
  obtain ⟨xs,n',_,hd,_,j,b⟩:=Cb underlying49 hf;have es:prog.cellsOf 9=1:=by kernel_rfl
  have eu:prog.cellsOf 47=1:=by kernel_rfl
  match xs,j with
  | [y0,y1,y2,y3],_ =>
    have t0:DataW.trod enc prog W 0 (fun _=>true) true n' 9 [c0]=some y0:=by
      have:=b 0 _ rfl;simpa [es,eu] using this
    have t1:DataW.trod enc prog W 0 (fun _=>true) true n' 47 [c1]=some y1:=by
      have:=b 1 _ rfl;simpa [es,eu] using this
    have t2:DataW.trod enc prog W 0 (fun _=>true) true n' 9 [c2]=some y2:=by
      have:=b 2 _ rfl;simpa [es,eu] using this
    have t3:DataW.trod enc prog W 0 (fun _=>true) true n' 9 [c3]=some y3:=by
      have:=b 3 _ rfl;simpa [es,eu] using this
    have hw:∀ y,y∈y0.1.weights prog 9∨y∈y2.1.weights prog 9∨y∈y3.1.weights prog 9→y≤reachBytes:=fun y hy=>C y (by
      rw [hd];simp only [DataW.weights,underlying49];simp [DataW.weightsEach]
      rcases hy with hy | hy | hy
      · exact .inl hy
      · exact .inr (.inr (.inl hy))
      · exact .inr (.inr (.inr hy)))
    obtain ⟨s0,g0,q0,_⟩:=C8 underlying9 t0;obtain rfl:c0=.string s0:=by simpa using g0
    have m:s0.size≤140737488351232:=by
      have:=hw s0.size (.inl (by rw [q0];simp [DataW.weights]))
      simpa [reachBytes] using this
    obtain ⟨s2,g2,q2,_⟩:=C8 underlying9 t2;obtain rfl:c2=.string s2:=by simpa using g2
    have z:s2.size≤140737488351232:=by
      have:=hw s2.size ((.inr ∘ .inl) (by rw [q2];simp [DataW.weights]))
      simpa [reachBytes] using this
    obtain ⟨s3,g3,q3,_⟩:=C8 underlying9 t3;obtain rfl:c3=.string s3:=by simpa using g3
    have A:s3.size≤140737488351232:=by
      have:=hw s3.size ((.inr ∘ .inr) (by rw [q3];simp [DataW.weights]))
      simpa [reachBytes] using this
    obtain ⟨z1,g1,_,f1⟩:=Bz underlying47 t1;obtain ⟨n1,rfl,b1⟩:=QfR f1;obtain rfl:c1=.int .u64 n1:=by simpa using g1
    exact ⟨⟨s0,n1,s2,s3⟩,rfl,m,b1,z,A⟩
theorem Qfn {H:Type} {enc:TypeId×Value→H} {W:World} {e:Nat} {c0 c1 c2 c3 c4 c5 c6 c7 c8 c9:Value} {x:DataW H×List MemPlace}
    (hf:DataW.trod enc prog W 0 (fun _=>true) true e 39 [c0,c1,c2,c3,c4,c5,c6,c7,c8,c9]=some x) (A:∀ y∈x.1.weights prog 39,y≤reachBytes) :
    ∃ g:Up,UpV W W.heap.size (.agg #[c0,c1,c2,c3,c4,c5,c6,c7,c8,c9]) g∧g.fits:=by
  obtain ⟨xs,n',_,hd,_,j,b⟩:=Cb underlying39 hf;have e0:prog.cellsOf 3=1:=by kernel_rfl
  have e2:prog.cellsOf 34=1:=by kernel_rfl
  match xs,j with
  | [y0,y1,y2],_ =>
    have t0:DataW.trod enc prog W 0 (fun _=>true) true n' 3 [c0]=some y0:=by
      have:=b 0 _ rfl;simpa [e0] using this
    have t1:DataW.trod enc prog W 0 (fun _=>true) true n' 37 [c1,c2,c3,c4,c5,c6,c7,c8]=some y1:=by
      have:=b 1 _ rfl;simpa [Qly] using this
    have t2:DataW.trod enc prog W 0 (fun _=>true) true n' 34 [c9]=some y2:=by
      have:=b 2 _ rfl;simpa [e2] using this
    have m:x.1=.agg [y0.1,y1.1,y2.1]:=Bl Prod.fst hd
    have hw:∀ y,y∈y1.1.weights prog 37∨y∈y2.1.weights prog 34→y≤reachBytes:=fun y hy=>A y (by
      rw [m];simp only [DataW.weights];simp [DataW.weightsEach]
      exact .inr hy)
    obtain ⟨z,g0,_⟩:=Bz underlying3 t0;obtain rfl:c0=Bb z:=by simp_all
    obtain ⟨s,hs,q⟩:=Qk5 t1 (fun y hy=>hw y (.inl hy))
    obtain ⟨l2,b2,f2,k2⟩:=Qj8 t2 (fun y hy=>hw y (.inr hy))
    exact ⟨⟨z,s,l2⟩,⟨c1,c2,c3,c4,c5,c6,c7,c8,c9,rfl,hs,b2⟩,q,k2,f2⟩
theorem YG {H:Type} {enc:TypeId×Value→H} {W:World} {b:Nat} {c:Value} {x:DataW H×List MemPlace} (h:DataW.trod enc prog W 0 (fun _=>true) true b 3 [c]=some x):∃ z:Int,c=Bb z∧-9223372036854775808≤z∧z≤9223372036854775807:=by
  obtain ⟨z,g,_,f⟩:=Bz underlying3 h;refine ⟨z,by simpa using g,?_⟩
  simpa [Lit.wf,IntKind.min,IntKind.signed,IntKind.bits] using f
theorem QkY {H:Type} {enc:TypeId×Value→H} {W:World} {e:Nat} {c0 c1 c2 c3 c4:Value} {x:DataW H×List MemPlace}
    (hf:DataW.trod enc prog W 0 (fun _=>true) true e 51 [c0,c1,c2,c3,c4]=some x):∃ a b:Int,c0=Bb a∧c1=Bb b∧(-9223372036854775808≤a∧a≤9223372036854775807)∧-9223372036854775808≤b∧b≤9223372036854775807:=by
  obtain ⟨xs,n',_,_,_,m,j⟩:=Cb underlying51 hf;have e1:prog.cellsOf 3=1:=by kernel_rfl
  match xs,m with
  | [y0,y1,y2,y3,y4],_ =>
    have t0:DataW.trod enc prog W 0 (fun _=>true) true n' 3 [c0]=some y0:=by
      have:=j 0 _ rfl;simpa [e1] using this
    have t1:DataW.trod enc prog W 0 (fun _=>true) true n' 3 [c1]=some y1:=by
      have:=j 1 _ rfl;simpa [e1] using this
    obtain ⟨a,ha,ra⟩:=YG t0;obtain ⟨b,hb,rb⟩:=YG t1;exact ⟨a,b,ha,hb,ra,rb⟩
theorem Qe {α:Type} {l:List α} {n:Nat} (h:l.length=n+1):∃ a t,l=a :: t∧t.length=n:=by cases l <;> grind
theorem Qqp {H:Type} {enc:TypeId×Value→H} {W:World} {A:Nat} {c0 c1 c2 c3 c4 c5 c6 c7 c8 c9 A1 A2 A3 A4 A5 A6 A7 A8 A9 Aa Ab Ac Ad Ae Af Ag Ah Ai Aj Ak Al A0 Am An Ao Ap Aq Ar As At Au Av Aw Ax Ay Az AA AB AC AD AE AF AG AH AI AJ AK AL AM AN AO AP:Value} {x:DataW H×List MemPlace}
    (hf:DataW.trod enc prog W 0 (fun _=>true) true A 53 [c0,c1,c2,c3,c4,c5,c6,c7,c8,c9,A1,A2,A3,A4,A5,A6,A7,A8,A9,Aa,Ab,Ac,Ad,Ae,Af,Ag,Ah,Ai,Aj,Ak,Al,A0,Am,An,Ao,Ap,Aq,Ar,As,At,Au,Av,Aw,Ax,Ay,Az,AA,AB,AC,AD,AE,AF,AG,AH,AI,AJ,AK,AL,AM,AN,AO,AP]=some x) (e:∀ y∈x.1.weights prog 53,y≤reachBytes) :
    ∃ (m:Ms) (o:Nat→Option Addr) (c:Nat→Nat),[c0,c1,c2,c3,c4,c5,c6,c7,c8,c9,A1,A2,A3,A4,A5,A6,A7,A8,A9,Aa,Ab,Ac,Ad,Ae,Af,Ag,Ah,Ai,Aj,Ak,Al,A0,Am,An,Ao,Ap,Aq,Ar,As,At,Au,Av,Aw,Ax,Ay,Az,AA,AB,AC,AD,AE,AF,AG,AH,AI,AJ,AK,AL,AM,AN,AO,AP]=msC m o c∧MsM W W.heap.size m o c∧m.fits∧(-9223372036854775808≤m.pk.dst∧m.pk.dst≤9223372036854775807)∧-9223372036854775808≤m.pk.src∧m.pk.src≤9223372036854775807:=by
  obtain ⟨xs,n',_,hd,_,D,b⟩:=Cb underlying53 hf;have e1:prog.cellsOf 3=1:=by kernel_rfl
  have e2:prog.cellsOf 9=1:=by kernel_rfl
  have e3:prog.cellsOf 4=1:=by kernel_rfl
  have e4:prog.cellsOf 29=1:=by kernel_rfl
  have e5:prog.cellsOf 31=4:=by kernel_rfl
  have e6:prog.cellsOf 39=10:=by kernel_rfl
  have e7:prog.cellsOf 46=18:=by kernel_rfl
  have e8:prog.cellsOf 49=4:=by kernel_rfl
  have e9:prog.cellsOf 51=5:=by kernel_rfl
  match xs,D with
  | [y0,y1,y2,y3,y4,y5,y6,y7,y8,y9,y10,y11,y12,y13,y14,y15,y16],_ =>
    have t0:DataW.trod enc prog W 0 (fun _=>true) true n' 3 [c0]=some y0:=by
      have:=b 0 _ rfl;simpa [e1,e2,e3,e4,e5,e6,e7,e8,e9] using this
    have t1:DataW.trod enc prog W 0 (fun _=>true) true n' 9 [c1]=some y1:=by
      have:=b 1 _ rfl;simpa [e1,e2,e3,e4,e5,e6,e7,e8,e9] using this
    have t2:DataW.trod enc prog W 0 (fun _=>true) true n' 3 [c2]=some y2:=by
      have:=b 2 _ rfl;simpa [e1,e2,e3,e4,e5,e6,e7,e8,e9] using this
    have t3:DataW.trod enc prog W 0 (fun _=>true) true n' 31 [c3,c4,c5,c6]=some y3:=by
      have:=b 3 _ rfl;simpa [e1,e2,e3,e4,e5,e6,e7,e8,e9] using this
    have t4:DataW.trod enc prog W 0 (fun _=>true) true n' 3 [c7]=some y4:=by
      have:=b 4 _ rfl;simpa [e1,e2,e3,e4,e5,e6,e7,e8,e9] using this
    have t5:DataW.trod enc prog W 0 (fun _=>true) true n' 39 [c8,c9,A1,A2,A3,A4,A5,A6,A7,A8]=some y5:=by
      have:=b 5 _ rfl;simpa [e1,e2,e3,e4,e5,e6,e7,e8,e9] using this
    have t6:DataW.trod enc prog W 0 (fun _=>true) true n' 39 [A9,Aa,Ab,Ac,Ad,Ae,Af,Ag,Ah,Ai]=some y6:=by
      have:=b 6 _ rfl;simpa [e1,e2,e3,e4,e5,e6,e7,e8,e9] using this
    have t7:DataW.trod enc prog W 0 (fun _=>true) true n' 3 [Aj]=some y7:=by
      have:=b 7 _ rfl;simpa [e1,e2,e3,e4,e5,e6,e7,e8,e9] using this
    have t8:DataW.trod enc prog W 0 (fun _=>true) true n' 3 [Ak]=some y8:=by
      have:=b 8 _ rfl;simpa [e1,e2,e3,e4,e5,e6,e7,e8,e9] using this
    have t9:DataW.trod enc prog W 0 (fun _=>true) true n' 3 [Al]=some y9:=by
      have:=b 9 _ rfl;simpa [e1,e2,e3,e4,e5,e6,e7,e8,e9] using this
    have aY:DataW.trod enc prog W 0 (fun _=>true) true n' 4 [A0]=some y10:=by
      have:=b 10 _ rfl;simpa [e1,e2,e3,e4,e5,e6,e7,e8,e9] using this
    have aZ:DataW.trod enc prog W 0 (fun _=>true) true n' 46 [Am,An,Ao,Ap,Aq,Ar,As,At,Au,Av,Aw,Ax,Ay,Az,AA,AB,AC,AD]=some y11:=by
      have:=b 11 _ rfl;simpa [e1,e2,e3,e4,e5,e6,e7,e8,e9] using this
    have a7:DataW.trod enc prog W 0 (fun _=>true) true n' 49 [AE,AF,AG,AH]=some y12:=by
      have:=b 12 _ rfl;simpa [e1,e2,e3,e4,e5,e6,e7,e8,e9] using this
    have a8:DataW.trod enc prog W 0 (fun _=>true) true n' 3 [AI]=some y13:=by
      have:=b 13 _ rfl;simpa [e1,e2,e3,e4,e5,e6,e7,e8,e9] using this
    have a9:DataW.trod enc prog W 0 (fun _=>true) true n' 3 [AJ]=some y14:=by
      have:=b 14 _ rfl;simpa [e1,e2,e3,e4,e5,e6,e7,e8,e9] using this
    have S:DataW.trod enc prog W 0 (fun _=>true) true n' 51 [AK,AL,AM,AN,AO]=some y15:=by
      have:=b 15 _ rfl;simpa [e1,e2,e3,e4,e5,e6,e7,e8,e9] using this
    have aa:DataW.trod enc prog W 0 (fun _=>true) true n' 29 [AP]=some y16:=by
      have:=b 16 _ rfl;simpa [e1,e2,e3,e4,e5,e6,e7,e8,e9] using this
    have w1:∀ y∈y1.1.weights prog 9,y≤reachBytes:=fun y hy=>e y (by rw [hd];simp only [DataW.weights,underlying53];simp [DataW.weightsEach,hy])
    have w3:∀ y∈y3.1.weights prog 31,y≤reachBytes:=fun y hy=>e y (by rw [hd];simp only [DataW.weights,underlying53];simp [DataW.weightsEach,hy])
    have w5:∀ y∈y5.1.weights prog 39,y≤reachBytes:=fun y hy=>e y (by rw [hd];simp only [DataW.weights,underlying53];simp [DataW.weightsEach,hy])
    have w6:∀ y∈y6.1.weights prog 39,y≤reachBytes:=fun y hy=>e y (by rw [hd];simp only [DataW.weights,underlying53];simp [DataW.weightsEach,hy])
    have ab:∀ y∈y11.1.weights prog 46,y≤reachBytes:=fun y hy=>e y (by rw [hd];simp only [DataW.weights,underlying53];simp [DataW.weightsEach,hy])
    have ac:∀ y∈y12.1.weights prog 49,y≤reachBytes:=fun y hy=>e y (by rw [hd];simp only [DataW.weights,underlying53];simp [DataW.weightsEach,hy])
    have ad:∀ y∈y15.1.weights prog 51,y≤reachBytes:=fun y hy=>e y (by rw [hd];simp only [DataW.weights,underlying53];simp [DataW.weightsEach,hy])
    have ae:∀ y∈y16.1.weights prog 29,y≤reachBytes:=fun y hy=>e y (by rw [hd];simp only [DataW.weights,underlying53];simp [DataW.weightsEach,hy])
    obtain ⟨z0,rfl,-⟩:=YG t0;obtain ⟨z1,g1,aV,_⟩:=C8 underlying9 t1;obtain rfl:c1=.string z1:=by simpa using g1
    have f1:z1.size≤140737488351232:=by
      have:=w1 z1.size (by rw [aV];simp [DataW.weights])
      simpa [reachBytes] using this
    obtain ⟨z2,rfl,-⟩:=YG t2;obtain ⟨kn,rfl,rfl,M,O,fk⟩:=Qgf t3 w3;obtain ⟨k0,aW,rfl,-⟩:=M.shape;obtain ⟨k1,aX,rfl,-⟩:=O.shape;obtain ⟨z4,rfl,-⟩:=YG t4;obtain ⟨u5,I,aS⟩:=Qfn t5 w5;obtain ⟨a1,Y,a2,aA,a3,aB,a4,aC,a5,aD,a6,aE,q,-⟩:=I.open;simp only [BW,BN,BL,BO] at q;obtain ⟨rfl,rfl,rfl,rfl,rfl,rfl,rfl,rfl,rfl,rfl⟩:=q;obtain ⟨u6,L,aT⟩:=Qfn t6 w6;obtain ⟨b1,aF,b2,aG,b3,aH,b4,aI,b5,aJ,b6,aK,z,-⟩:=L.open;simp only [BW,BN,BL,BO] at z;obtain ⟨rfl,rfl,rfl,rfl,rfl,rfl,rfl,rfl,rfl,rfl⟩:=z;obtain ⟨z7,rfl,-⟩:=YG t7;obtain ⟨z8,rfl,-⟩:=YG t8;obtain ⟨z9,rfl,-⟩:=YG t9;obtain ⟨T,aU,_⟩:=DU underlying4 aY;obtain rfl:A0=.bool T:=by simpa using aU
    obtain ⟨sh,G,aQ⟩:=QmL aZ ab;obtain ⟨q1,aL,q2,aM,q3,aN,r1,s1,r2,s2,r3,s3,r4,s4,r5,s5,r6,s6,es,-⟩:=G.open;simp only [BW,BN,BL,BO] at es;obtain ⟨rfl,rfl,rfl,rfl,rfl,rfl,rfl,rfl,rfl,rfl,rfl,rfl,rfl,rfl,rfl,rfl,rfl,rfl⟩:=es;obtain ⟨tr,et,aR⟩:=Qim a7 ac;simp only [BW,BN,BL,BO] at et;obtain ⟨rfl,rfl,rfl,rfl⟩:=et;obtain ⟨af,rfl,-⟩:=YG a8;obtain ⟨ag,rfl,-⟩:=YG a9;obtain ⟨pa,pb,ha,hb,ra,rb⟩:=QkY S;obtain ⟨j,E,aP⟩:=QkX S ad;obtain ⟨od,cd,ep,-⟩:=E.open;simp only [BW,BN,BL,BO] at ep;obtain ⟨rfl,rfl,rfl,rfl,rfl⟩:=ep;obtain rfl:j.src=pa:=by simpa using ha
    obtain rfl:j.dst=pb:=by simpa using hb
    obtain ⟨ack,C,aO⟩:=J8 aa ae;obtain ⟨oa,ca,rfl,-⟩:=C.shape;exact ⟨⟨z0,z1,z2,kn,z4,u5,u6,z7,z8,z9,T,sh,tr,af,ag,j,ack⟩,fun i=>([k0,k1,a1,a2,a3,a4,a5,a6,b1,b2,b3,b4,b5,b6,q1,q2,q3,r1,r2,r3,r4,r5,r6,od,oa]:List (Option Addr)).getD i none,fun i=>([aW,aX,Y,aA,aB,aC,aD,aE,aF,aG,aH,aI,aJ,aK,aL,aM,aN,s1,s2,s3,s4,s5,s6,cd,ca]:List Nat).getD i 0,rfl,⟨⟨_,_,rfl,M,O⟩,I,L,G,E,C⟩,⟨f1,fk,aS,aT,aQ,aR,aP,aO⟩,rb,ra⟩
theorem Qso {H:Type} {enc:TypeId×Value→H} {W:World} {base:Nat} {v:Value} {d:DataW H} {p:List MemPlace}
    (b:Value.okWide prog W .any base 53 v) (h:DataW.Trod enc prog W 0 (fun _=>true) true 53 v d p) (ag:∀ y∈d.weights prog 53,y≤reachBytes) :
    ∃ (m:Ms) (o:Nat→Option Addr) (c:Nat→Nat),v=.agg (msC m o c).toArray∧MsM W W.heap.size m o c∧m.fits∧(-9223372036854775808≤m.pk.dst∧m.pk.dst≤9223372036854775807)∧-9223372036854775808≤m.pk.src∧m.pk.src≤9223372036854775807:=by
  obtain ⟨cs,rfl,af⟩:=okWide_struct underlying53 b;obtain ⟨l⟩:=cs;obtain ⟨c0,l0,rfl,h1⟩:=Qe af;obtain ⟨c1,l1,rfl,h2⟩:=Qe h1;obtain ⟨c2,l2,rfl,h3⟩:=Qe h2;obtain ⟨c3,l3,rfl,h4⟩:=Qe h3;obtain ⟨c4,l4,rfl,h5⟩:=Qe h4;obtain ⟨c5,l5,rfl,h6⟩:=Qe h5;obtain ⟨c6,l6,rfl,h7⟩:=Qe h6;obtain ⟨c7,l7,rfl,h8⟩:=Qe h7;obtain ⟨c8,l8,rfl,h9⟩:=Qe h8;obtain ⟨c9,l9,rfl,j⟩:=Qe h9;obtain ⟨c10,l10,rfl,q⟩:=Qe j;obtain ⟨c11,l11,rfl,z⟩:=Qe q;obtain ⟨c12,l12,rfl,A⟩:=Qe z;obtain ⟨c13,l13,rfl,C⟩:=Qe A;obtain ⟨c14,l14,rfl,D⟩:=Qe C;obtain ⟨c15,l15,rfl,E⟩:=Qe D;obtain ⟨c16,l16,rfl,G⟩:=Qe E;obtain ⟨c17,l17,rfl,I⟩:=Qe G;obtain ⟨c18,l18,rfl,L⟩:=Qe I;obtain ⟨c19,l19,rfl,M⟩:=Qe L;obtain ⟨c20,l20,rfl,O⟩:=Qe M;obtain ⟨c21,l21,rfl,S⟩:=Qe O;obtain ⟨c22,l22,rfl,T⟩:=Qe S;obtain ⟨c23,l23,rfl,Y⟩:=Qe T;obtain ⟨c24,l24,rfl,aA⟩:=Qe Y;obtain ⟨c25,l25,rfl,aB⟩:=Qe aA;obtain ⟨c26,l26,rfl,aC⟩:=Qe aB;obtain ⟨c27,l27,rfl,aD⟩:=Qe aC;obtain ⟨c28,l28,rfl,aE⟩:=Qe aD;obtain ⟨c29,l29,rfl,aF⟩:=Qe aE;obtain ⟨c30,l30,rfl,aG⟩:=Qe aF;obtain ⟨c31,l31,rfl,aH⟩:=Qe aG;obtain ⟨c32,l32,rfl,aI⟩:=Qe aH;obtain ⟨c33,l33,rfl,aJ⟩:=Qe aI;obtain ⟨c34,l34,rfl,aK⟩:=Qe aJ;obtain ⟨c35,l35,rfl,aL⟩:=Qe aK;obtain ⟨c36,l36,rfl,aM⟩:=Qe aL;obtain ⟨c37,l37,rfl,aN⟩:=Qe aM;obtain ⟨c38,l38,rfl,aO⟩:=Qe aN;obtain ⟨c39,l39,rfl,aP⟩:=Qe aO;obtain ⟨c40,l40,rfl,aQ⟩:=Qe aP;obtain ⟨c41,l41,rfl,aR⟩:=Qe aQ;obtain ⟨c42,l42,rfl,aS⟩:=Qe aR;obtain ⟨c43,l43,rfl,aT⟩:=Qe aS;obtain ⟨c44,l44,rfl,aU⟩:=Qe aT;obtain ⟨c45,l45,rfl,aV⟩:=Qe aU;obtain ⟨c46,l46,rfl,aW⟩:=Qe aV;obtain ⟨c47,l47,rfl,aX⟩:=Qe aW;obtain ⟨c48,l48,rfl,aY⟩:=Qe aX;obtain ⟨c49,l49,rfl,aZ⟩:=Qe aY;obtain ⟨c50,l50,rfl,a3⟩:=Qe aZ;obtain ⟨c51,l51,rfl,a4⟩:=Qe a3;obtain ⟨c52,l52,rfl,a5⟩:=Qe a4;obtain ⟨c53,l53,rfl,a6⟩:=Qe a5
  obtain ⟨c54,l54,rfl,a7⟩:=Qe a6;obtain ⟨c55,l55,rfl,a8⟩:=Qe a7;obtain ⟨c56,l56,rfl,a9⟩:=Qe a8;obtain ⟨c57,l57,rfl,aa⟩:=Qe a9;obtain ⟨c58,l58,rfl,ab⟩:=Qe aa;obtain ⟨c59,l59,rfl,ac⟩:=Qe ab;obtain ⟨c60,l60,rfl,ad⟩:=Qe ac;obtain ⟨c61,l61,rfl,ae⟩:=Qe ad;obtain rfl:=CD.1 ae;obtain ⟨fuel,hf⟩:=h;obtain ⟨m,o,c,e,h1⟩:=Qqp (x:=(d,p)) hf ag;exact ⟨m,o,c,by rw [← e],h1⟩
def msZ:Ms:=⟨0,⟨#[]⟩,0,⟨0,0,[],[]⟩,0,⟨0,⟨⟨⟨#[]⟩,0,0,[],[],[]⟩,[],[]⟩,[]⟩,⟨0,⟨⟨⟨#[]⟩,0,0,[],[],[]⟩,[],[]⟩,[]⟩,0,0,0,false,⟨0,⟨0,0,[],[],[]⟩,⟨false,false,⟨0,0,[],[],[]⟩,⟨0,0,[],[],[]⟩⟩⟩,⟨⟨#[]⟩,0,⟨#[]⟩,⟨#[]⟩⟩,0,0,⟨0,0,0,[],0⟩,[]⟩
def Ms.fitsR (m:Ms):Prop:=m.fits∧(-9223372036854775808≤m.pk.dst∧m.pk.dst≤9223372036854775807)∧-9223372036854775808≤m.pk.src∧m.pk.src≤9223372036854775807
theorem Qsp {H:Type} {enc:TypeId×Value→H} {W:World} {base:Nat} {v:Value} {d:DataW H} {p:List MemPlace}
    (b:Value.okWide prog W .any base 53 v) (h:DataW.Trod enc prog W 0 (fun _=>true) true 53 v d p) (j:∀ y∈d.weights prog 53,y≤reachBytes):∃ g:Ms,MsV W W.heap.size v g∧g.fitsR:=by
  obtain ⟨m,o,c,e,h1,h2⟩:=Qso b h j;exact ⟨m,⟨o,c,e,h1⟩,h2⟩
open Go.RowKit
theorem Qhe {s:St} {l:List Cn} (hf:s.fits) (hl:l.length<2305843009213693952):({ s with conns:=l }:St).fits:=⟨hf.1,hf.2.1,hl,hf.2.2.2⟩
theorem Ql1 {s:St} {c o:Int} (h:QaA s c o=0):J0 s c=0:=by
  unfold QaA at h
  split at h
  · rename_i h1;exact absurd h h1
  · rename_i h1;simpa using h1
theorem Qoq {s:St} {c o q z:Int} (h:Qcu s c o q z=0):J0 s c=0:=by
  unfold Qcu at h
  split at h
  · rename_i h1;exact absurd h h1
  · rename_i h1;simpa using h1
structure Qdq (s:St) (i:Int) (t:St):Prop where
  right:Qd t=0
  fit:t.fits
  rest:({ t with conns:=s.conns }:St)=s
  len:s.conns.length≤t.conns.length
  same:∀ (k:Nat) (c:Cn),s.conns[k]?=some c→(c.state=3∨(k:Int)≠i)→t.conns[k]?=some c
theorem Qf8 {s:St} {i:Int} {c:Cn} (hf:s.fits) (hw:Qd s=0) (hl:s.conns.length<8) (hc:Ji c=0):Qdq s i (Qna s 0 c):=by
  have e:Qna s 0 c={ s with conns:=s.conns ++ [c] }:=if_pos rfl
  rw [e];refine ⟨Qgv hw (by simp;omega) ?_,Qhe hf (by simp;omega),rfl,by simp,?_⟩
  · intro x hx
    rcases Bw.1 hx with hx | hx
    · exact (QB hw).conns x hx
    · simp at hx
      rw [hx];exact hc
  · intro k x hx _
    rw [Cw (Bm.1 hx).1];exact hx
theorem Qf9 {s:St} {i:Int} {x c:Cn} (hf:s.fits) (hw:Qd s=0) (hi:0≤i) (hx:s.conns[i.toNat]?=some x) (h3:x.state≠3) (hc:Ji c=0):Qdq s i (Qmw s 0 i c):=by
  have e:Qmw s 0 i c={ s with conns:=s.conns.set i.toNat c }:=if_pos rfl
  have h8:s.conns.length≤8:=by
    have:=(QX hw).2.2.1;unfold QaC at this;have:=Dk this;omega
  rw [e];refine ⟨Qgv hw (by simpa using h8) ?_,Qhe hf (by simp;omega),rfl,by simp,?_⟩
  · intro y hy
    rcases Di hy with hy | hy
    · exact (QB hw).conns y hy
    · rw [hy]
      exact hc
  · intro k y hy hk
    by_cases b:i.toNat=k
    · subst b
      rw [hx] at hy
      cases hy
      rcases hk with hk | hk
      · exact absurd hk h3
      · omega
    · simp only
      rw [BZ b];exact hy
theorem Qme {s:St} (h:QbS s=0):s.conns.length<8:=by
  unfold QbS at h
  split at h
  · cases h
  · omega
theorem QkI {s:St} {i c o:Int} (hf:s.fits) (h:QaA s c o=0):Qdq s i (Ql2 s c o):=by
  have h0:=Ql1 h;have hw:=QbY h0;have hl:=Qaq (Qbx h0);have hc:=(QE hw).1;unfold Ql2;rw [h];unfold QaA at h;rw [if_neg (by simp [h0])] at h
  split at h
  · cases h
  rename_i h1;have ho:=(Q6 0 o).1 (by simpa using h1)
  exact Qf8 hf hw (Qme h) (Qau (by omega) (by omega) (by omega) (by omega))
theorem QlT {s:St} {i c o q z:Int} (hf:s.fits) (h:Qcu s c o q z=0):Qdq s i (Qtr s c o q z):=by
  have h0:=Qoq h;have hw:=QbY h0;have hl:=Qaq (Qbx h0);have hc:=(QE hw).1;unfold Qtr;rw [h];unfold Qcu at h;rw [if_neg (by simp [h0])] at h
  split at h
  · cases h
  rename_i h1
  split at h
  · rename_i h2;exact absurd h h2
  simp at h1;have ho:=(Q6 0 o).1 h1.1;have hq:=(Q6 0 q).1 h1.2;exact Qf8 hf hw (Qme h) (Qau (by omega) (by omega) (by omega) (by omega))
theorem QrP {s:St} {i st:Int} (h:Qcc s i st=0):Qd s=0∧0≤i∧∃ x,s.conns[i.toNat]?=some x∧Yd s i=x∧x.state=st∧Ji x=0:=by
  obtain ⟨hw,hi,e,_⟩:=Y2 h;have b:i.toNat<s.conns.length:=by omega
  have hx:s.conns[i.toNat]?=some s.conns[i.toNat]:=Bk b;have hc:Yd s i=s.conns[i.toNat]:=by unfold Yd;rw [hx];rfl
  exact ⟨hw,hi.1,_,hx,hc,by rw [← hc];exact e,(QB hw).conns _ (Bn hx)⟩
theorem QlS {s:St} {i q z:Int} (hf:s.fits) (h:QiA s i q z=0):Qdq s i (Qrf s i q z):=by
  unfold Qrf;rw [h];unfold QiA at h
  split at h
  · rename_i h1;exact absurd h h1
  rename_i h1
  split at h
  · cases h
  rename_i h2;obtain ⟨hw,hi,x,hx,hc,hst,b⟩:=QrP (by simpa using h1)
  have hk:=Zv b;have hq:=(Q6 0 q).1 (by simpa using h2)
  rw [hc];exact Qf9 hf hw hi hx (by omega) (Qau (by omega) (by omega) (by omega) (by omega))
theorem QkG {s:St} {i z:Int} (hf:s.fits) (h:QcX s i z=0):Qdq s i (QlE s i z):=by
  unfold QlE;rw [h];unfold QcX at h
  split at h
  · rename_i h1;exact absurd h h1
  rename_i h1;obtain ⟨hw,hi,x,hx,hc,hst,b⟩:=QrP (by simpa using h1)
  have hk:=Zv b;rw [hc];exact Qf9 hf hw hi hx (by omega) (Qau (by omega) (by omega) (by omega) (by omega))
theorem QaQ {s:St} (h:Qd s=0):QP s.sent=0∧QP s.got=0∧QP s.acks=0∧(s.chans.length≤8∧s.sent.length≤50∧s.got.length≤50∧s.acks.length≤50):=by
  obtain ⟨h1,h2,h3,h4⟩:=QX h;have h5:=Dk (show decide _=false from h3);have h':=(JG _).1 h4;simp only [Bo,BH,BI,Cu,CM] at h';exact ⟨h'.2.2.2.1,h'.2.2.2.2.1,h'.2.2.2.2.2.1,by omega⟩
theorem Qcz {s:St} {l:List Ch} {a b c:List Mk} (h:Qd s=0) (hl:l.length≤8) (hc:∀ c∈l,Q1 c=0) (ha:QP a=0∧a.length≤50) (hb:QP b=0∧b.length≤50) (hk:QP c=0∧c.length≤50):Qd { s with chans:=l,sent:=a,got:=b,acks:=c }=0:=by
  obtain ⟨h1,h2,h3,h4⟩:=QX h;have h5:=Dk (show decide _=false from h3);unfold Qd;rw [if_neg (by simp [h1]),if_neg (by simp [h2.1,h2.2]),if_neg (by simp [QaC];omega)]
  have h':=(JG _).1 h4;simp only [Bo,BH,BI,Cu,CM] at h';refine (JG _).2 ?_;simp only [Bo,BH,BI,Cu,CM];exact ⟨h'.1,h'.2.1,(Yu _ _).2 hc,ha.1,hb.1,hk.1,h'.2.2.2.2.2.2⟩
theorem QfO {l:List Mk} (h:QP l=0):∀ m∈l,m.fits:=fun m hm=>by
  have:=(QoD ((Y5 h).1 m hm)).2.2;unfold Mk.fits;omega
theorem QeP {s:St} {l:List Ch} {a b c:List Mk} (hf:s.fits) (hl:l.length≤8) (ha:QP a=0∧a.length≤50) (hb:QP b=0∧b.length≤50) (hk:QP c=0∧c.length≤50):({ s with chans:=l,sent:=a,got:=b,acks:=c }:St).fits :=
  ⟨hf.1,hf.2.1,hf.2.2.1,(show l.length<2305843009213693952 by omega),⟨(show a.length<2305843009213693952 by omega),QfO ha.1⟩,⟨(show b.length<2305843009213693952 by omega),QfO hb.1⟩,⟨(show c.length<2305843009213693952 by omega),QfO hk.1⟩,hf.2.2.2.2.2.2.2⟩
theorem Qez {ch seq:Int} {d:Bg} (h1:0≤ch∧ch≤1000000000000) (h2:1≤seq∧seq≤1000000000000) (h3:d.length=32):JV ⟨ch,seq,d⟩=0:=by
  unfold JV;rw [if_neg (by simp [Qs];omega),if_neg (by simpa using h3)]
theorem QfT {s:St} {j:Nat} {c:Ch} (h:Qd s=0) (hc:Q1 c=0):(s.chans.set j c).length≤8∧∀ x∈s.chans.set j c,Q1 x=0 :=
  ⟨by rw [C5];exact (QaQ h).2.2.2.1,fun x hx=>by
    rcases Di hx with hx | rfl
    · exact (QB h).chans x hx
    · exact hc⟩
theorem Qeb {s t:St} {i:Int} {l:List Int} {j:Nat} {c d:Ch} (hi:i=(j:Int)) (ht:Qd t=0) (hd:t.chans[j]?=some d) (h1:d.state∈l) (h2:d.conn=c.conn) (h3:t.conns=s.conns∧t.clients=s.clients∧t.time=s.time) (ho:QaE s c.conn=0):Jb t i l=0:=by
  subst hi;have hl:j<t.chans.length:=(Bm.1 hd).1;unfold Jb;rw [if_neg (by simp [ht]),if_neg (by omega),Ym hd,if_pos h1,h2]
  unfold QaE Yd ZS QiH at *;rw [h3.1,h3.2.1,h3.2.2];exact ho
theorem Qg6 {s:St} {j:Nat} {c d:Ch} (hc:s.chans[j]?=some c):(s.chans.set j d)[j]?=some d:=Dy (Bm.1 hc).1
theorem QjU {s:St} {p:Pk} {n:Nat} (h:YV s p n=0):Qz p=0∧Jb s p.dst [3]=0∧(s.got.length<50∧s.acks.length<50)∧n≤150∧(Qv s p.dst).recv<1000000000000∧QcG s (Qv s p.dst) p=false∧(Qv s p.dst).ochan=p.src∧s.height<p.tmo:=by
  unfold YV at h
  split at h
  · rename_i h1;exact absurd h h1
  rename_i h1
  split at h
  · rename_i h2;exact absurd h h2
  rename_i h2
  split at h
  · cases h
  rename_i h3
  split at h
  · cases h
  rename_i h4
  split at h
  · cases h
  rename_i h5
  split at h
  · cases h
  rename_i h6;exact ⟨by simpa using h1,by simpa using h2,by omega,by omega,by omega,by simpa using h5,by simpa using h3,by omega⟩
theorem Qn3 {s:St} {p:Pk} {n:Nat} (h:YV s p n=0):QcG s (Qv s p.dst) p=false:=(QjU h).2.2.2.2.2.1
theorem QjZ {s:St} {p:Pk} (h:Jf s p=0):Qz p=0∧Jb s p.src [3,4]=0∧(Qv s p.src).ochan=p.dst∧∃ m,ZP s.sent p.src p.seq=some m∧m.dig=Je p:=by
  unfold Jf at h
  split at h
  · rename_i h1;exact absurd h h1
  rename_i h1
  split at h
  · rename_i h2;exact absurd h h2
  rename_i h2
  split at h
  · cases h
  rename_i h3
  cases hm:ZP s.sent p.src p.seq with
  | none=>rw [hm] at h;cases h
  | some m =>
    rw [hm] at h;simp only at h
    split at h
    · cases h
    rename_i h4;exact ⟨by simpa using h1,by simpa using h2,by simpa using h3,m,rfl,by simpa using h4⟩
theorem QpU {s:St} {p:Pk} {ack:Bg} (hr:YV s p ack.length=0) (hf:s.fits):Qd (QbQ s p ack)=0∧(QbQ s p ack).fits∧∀ n,YV (QbQ s p ack) p n=12:=by
  obtain ⟨S,T,hm,-,aB,-,L,hht⟩:=QjU hr;have E:=Y0 S;obtain ⟨j,k,m,c,d,f,z,hj,D,hck,hd,hdm,hff,hfo,aD,hwf,-⟩:=Y1 T;obtain ⟨hw,-,O,M⟩:=JB T;rw [D] at aB L O M;have I:=Jy aD;have b:=QaQ hw;have hlg:=QfY s.got ⟨p.dst,p.seq,Je p⟩ (Y5 b.2.1).2;have hla:=QfY s.acks ⟨p.dst,p.seq,sha ack⟩ (Y5 b.2.2.1).2;have C:QP (QZ s.acks ⟨p.dst,p.seq,sha ack⟩)=0∧(QZ s.acks ⟨p.dst,p.seq,sha ack⟩).length≤50:=⟨Qdl b.2.2.1 (Qez E.2.1 E.2.2.1 (QR _)),by omega⟩
  have hS:QP s.sent=0∧s.sent.length≤50:=⟨b.1,b.2.2.2.2.1⟩
  cases ho:c.ordered with
  | true =>
    have e:QbQ s p ack={ s with chans:=s.chans.set j c.recv1,sent:=s.sent,got:=s.got,acks:=QZ s.acks ⟨p.dst,p.seq,sha ack⟩ }:=by
      unfold QbQ QbX;rw [D,if_pos ho,z];rfl
    have aA:Q1 c.recv1=0:=YA I.1 I.2.1 I.2.2.1 (by simp only [Ch.recv1];omega)
    obtain ⟨g1,g2⟩:=QfT (j:=j) hw aA;have A:=Qcz hw g1 g2 hS ⟨b.2.1,b.2.2.2.2.2.1⟩ C;refine ⟨by rw [e];exact A,by rw [e];exact QeP hf g1 hS ⟨b.2.1,b.2.2.2.2.2.1⟩ C,fun n=>?_⟩
    rw [e];have Y:=Qg6 (d:=c.recv1) hj
    have q:=Qeb (t:={ s with chans:=s.chans.set j c.recv1,sent:=s.sent,got:=s.got,acks:=QZ s.acks ⟨p.dst,p.seq,sha ack⟩ }) (l:=[3]) z A Y O rfl ⟨rfl,rfl,rfl⟩ M
    have G:Qv { s with chans:=s.chans.set j c.recv1,sent:=s.sent,got:=s.got,acks:=QZ s.acks ⟨p.dst,p.seq,sha ack⟩ } p.dst=c.recv1:=by rw [z];exact Ym Y
    have aC:p.seq=c.recv:=by
      have:=Qn3 hr;rw [D] at this;unfold QcG at this;rw [if_pos ho] at this;simpa using this
    unfold YV;rw [if_neg (by simp [S]),if_neg (by simp [q]),G,if_neg (by simp [Ch.recv1,L]),if_neg (by simp only;omega),if_pos]
    unfold QcG;rw [if_pos (by simp [Ch.recv1,ho])]
    simp [Ch.recv1,aC];omega
  | false =>
    have e:QbQ s p ack={ s with chans:=s.chans,sent:=s.sent,got:=QZ s.got ⟨p.dst,p.seq,Je p⟩,acks:=QZ s.acks ⟨p.dst,p.seq,sha ack⟩ }:=by
      unfold QbQ;rw [D,if_neg (by simp [ho])]
    have hG:QP (QZ s.got ⟨p.dst,p.seq,Je p⟩)=0∧(QZ s.got ⟨p.dst,p.seq,Je p⟩).length≤50:=⟨Qdl b.2.1 (Qez E.2.1 E.2.2.1 (QR _)),by omega⟩
    have A:=Qcz hw b.2.2.2.1 (QB hw).chans hS hG C;refine ⟨by rw [e];exact A,by rw [e];exact QeP hf b.2.2.2.1 hS hG C,fun n=>?_⟩
    rw [e]
    have q:=Qeb (t:={ s with chans:=s.chans,sent:=s.sent,got:=QZ s.got ⟨p.dst,p.seq,Je p⟩,acks:=QZ s.acks ⟨p.dst,p.seq,sha ack⟩ }) (l:=[3]) z A hj O rfl ⟨rfl,rfl,rfl⟩ M
    have G:Qv { s with chans:=s.chans,sent:=s.sent,got:=QZ s.got ⟨p.dst,p.seq,Je p⟩,acks:=QZ s.acks ⟨p.dst,p.seq,sha ack⟩ } p.dst=c:=by rw [z];exact Ym hj
    unfold YV;rw [if_neg (by simp [S]),if_neg (by simp [q]),G,if_neg (by simp [L]),if_neg (by simp only;omega),if_pos]
    unfold QcG;rw [if_neg (by simp [ho])]
    have:=Qq2 s.got ⟨p.dst,p.seq,Je p⟩;simp only at this;simp [this]
theorem Qht {s:St} {p:Pk} {c':Ch} (hr:Jf s p=0) (hf:s.fits) (h1:(Qv s p.src).ordered=true→Q1 c'=0∧c'.conn=(Qv s p.src).conn∧c'.ochan=(Qv s p.src).ochan∧c'.state∈([3,4]:List Int)):Qd (Jo s p c')=0∧(Jo s p c').fits∧Jf (Jo s p c') p=6:=by
  obtain ⟨I,A,D,mk,hmk,-⟩:=QjZ hr;have hpo:=Y0 I;obtain ⟨j,k,m,c,d,f,z,hj,q,hck,hd,hdm,hff,hfo,hwc,hwf,-⟩:=Y1 A;obtain ⟨hw,-,G,E⟩:=JB A;rw [q] at D G E h1;have b:=QaQ hw;have hlw:=Qlg s.sent p.src p.seq;have hS:QP (Q0 s.sent p.src p.seq)=0∧(Q0 s.sent p.src p.seq).length≤50:=⟨Qir b.1,by omega⟩
  have hG:QP s.got=0∧s.got.length≤50:=⟨b.2.1,b.2.2.2.2.2.1⟩;have hK:QP s.acks=0∧s.acks.length≤50:=⟨b.2.2.1,b.2.2.2.2.2.2⟩
  have fin:∀ (l:List Ch) (x:Ch),Jo s p c'={ s with chans:=l,sent:=Q0 s.sent p.src p.seq,got:=s.got,acks:=s.acks }→l.length≤8→(∀ c∈l,Q1 c=0)→l[j]?=some x→x.state∈([3,4]:List Int)→x.conn=c.conn→x.ochan=c.ochan→Qd (Jo s p c')=0∧(Jo s p c').fits∧Jf (Jo s p c') p=6:=by
    intro l x e g1 g2 g3 g4 g5 g6;have L:=Qcz hw g1 g2 hS hG hK;refine ⟨by rw [e];exact L,by rw [e];exact QeP hf g1 hS hG hK,?_⟩
    rw [e]
    have C:=Qeb (t:={ s with chans:=l,sent:=Q0 s.sent p.src p.seq,got:=s.got,acks:=s.acks }) (l:=[3,4]) z L g3 g4 g5 ⟨rfl,rfl,rfl⟩ E
    have M:Qv { s with chans:=l,sent:=Q0 s.sent p.src p.seq,got:=s.got,acks:=s.acks } p.src=x:=by rw [z];exact Ym g3
    unfold Jf;rw [if_neg (by simp [I]),if_neg (by simp [C]),M,if_neg (by simp [g6,D]),Qlf]
  cases ho:c.ordered with
  | true =>
    obtain ⟨q1,q2,q3,q4⟩:=h1 ho;obtain ⟨g1,g2⟩:=QfT (j:=j) hw q1;refine fin (s.chans.set j c') c' ?_ g1 g2 (Qg6 hj) q4 q2 q3;unfold Jo QbX;rw [q,if_pos ho,z];rfl
  | false =>
    refine fin s.chans c ?_ b.2.2.2.1 (QB hw).chans hj G rfl rfl;unfold Jo;rw [q,if_neg (by simp [ho])]
theorem QnA {c:Ch} {p:Pk} {n:Nat} {z:Int} (h:QdP c p n z=0):c.ordered=true→c.ack<1000000000000:=by
  intro ho;unfold QdP at h
  split at h
  · cases h
  split at h
  · cases h
  split at h
  · cases h
  rename_i h3;have:¬ (1000000000000≤c.ack):=fun h=>h3 ⟨ho,h⟩
  omega
theorem QhR {s:St} {p:Pk} {n:Nat} {z:Int} (h:Zd s p n z=0):Jf s p=0∧QdP (Qv s p.src) p n z=0:=by
  unfold Zd at h
  split at h
  · rename_i h1;exact absurd h h1
  · rename_i h1;exact ⟨by simpa using h1,h⟩
theorem QhE {s:St} {p:Pk} {next hh z:Int} (h:Zx s p next hh z=0):Jf s p=0:=by
  unfold Zx at h
  split at h
  · rename_i h1;exact absurd h h1
  · rename_i h1;simpa using h1
theorem QhY {s:St} {p:Pk} {n:Nat} {z:Int} (h:ZV s p n z=0):YV s p n=0:=by
  unfold ZV at h
  split at h
  · rename_i h1;exact absurd h h1
  · rename_i h1;simpa using h1
theorem Qj1 {s:St} {p:Pk} (h:Jf s p=0):Q1 (Qv s p.src)=0∧(Qv s p.src).state∈([3,4]:List Int):=by
  obtain ⟨-,b,-⟩:=QjZ h;obtain ⟨j,k,m,c,d,f,hij,hj,e,-,-,-,-,-,z,-⟩:=Y1 b;obtain ⟨-,-,q,-⟩:=JB b;exact ⟨by rw [e];exact z,q⟩
theorem Qfw {s:St} {p:Pk} {n:Nat} {z:Int} (h:Zd s p n z=0) (hf:s.fits):Qd (Jo s p (Qv s p.src).ack1)=0∧(Jo s p (Qv s p.src).ack1).fits∧Jf (Jo s p (Qv s p.src).ack1) p=6:=by
  obtain ⟨h1,h2⟩:=QhR h;obtain ⟨hw,e⟩:=Qj1 h1;have b:=Jy hw;exact Qht h1 hf fun ho=>⟨YA b.1 b.2.1 b.2.2.1 (by have:=QnA h2 ho;simp only [Ch.ack1];omega),rfl,rfl,e⟩
theorem Qid {s:St} {p:Pk} {next hh z:Int} (h:Zx s p next hh z=0) (hf:s.fits):Qd (Jo s p (Qv s p.src).shut)=0∧(Jo s p (Qv s p.src).shut).fits∧Jf (Jo s p (Qv s p.src).shut) p=6:=by
  have h1:=QhE h;obtain ⟨hw,hst⟩:=Qj1 h1;have b:=Jy hw;exact Qht h1 hf fun ho=>⟨YA (by simp [Ch.shut]) b.2.1 b.2.2.1 b.2.2.2,rfl,rfl,by simp [Ch.shut]⟩
theorem Qur {s:St} {p:Pk} {b send:Int} (h:QiT s p b send=0):Qz p=0∧s.sent.length<50∧send<1000000000000:=by
  unfold QiT at h
  split at h
  · rename_i h1;exact absurd h h1
  rename_i h1
  split at h
  · cases h
  split at h
  · cases h
  rename_i h3;exact ⟨by simpa using h1,by omega,by omega⟩
theorem QmJ {s:St} {i:Int} {d:Bg} {tmo:Int} (h:YB s i d tmo=0):Jb s i [3]=0∧QiT s (Jx s i d tmo) (QeX (Qbp s i)) (Qv s i).send=0:=by
  unfold YB at h
  split at h
  · rename_i h1;exact absurd h h1
  · rename_i h1;exact ⟨by simpa using h1,h⟩
theorem Qs9 {s:St} {i:Int} {d:Bg} {tmo:Int} (h:YB s i d tmo=0) (hf:s.fits):∃ (j:Nat) (c:Ch),i=(j:Int)∧s.chans[j]?=some c∧Qv s i=c∧(0≤c.send∧c.send<1000000000000)∧(Qdc s (Jx s i d tmo)).fits∧Qd (Qdc s (Jx s i d tmo))=0∧(Qdc s (Jx s i d tmo)).chans[j]?=some c.sent1∧s.sent.length≤(Qdc s (Jx s i d tmo)).sent.length:=by
  obtain ⟨A,ho⟩:=QmJ h;obtain ⟨O,hsl,E⟩:=Qur ho;obtain ⟨j,k,m,c,cn,f,C,hj,q,-,-,-,-,-,M,-⟩:=Y1 A;obtain ⟨hw,-⟩:=JB A;have D:=Y0 O;rw [q] at E;have z:=Jy M;have b:=QaQ hw;have I:=QfY s.sent ⟨i,c.send,Je (Jx s i d tmo)⟩ (Y5 b.1).2
  have e:Qdc s (Jx s i d tmo)={ s with chans:=s.chans.set j c.sent1,sent:=QZ s.sent ⟨i,c.send,Je (Jx s i d tmo)⟩,got:=s.got,acks:=s.acks }:=by
    have e1:(Jx s i d tmo).src=i:=rfl;have e2:(Jx s i d tmo).seq=c.send:=by show (Qv s i).send=_;rw [q]
    unfold Qdc QbX;rw [e1,e2,q,C];rfl
  have G:Q1 c.sent1=0:=YA z.1 z.2.1 z.2.2.1 (by simp only [Ch.sent1];omega)
  obtain ⟨g1,g2⟩:=QfT (j:=j) hw G;have L:(Jx s i d tmo).seq=c.send:=by show (Qv s i).send=_;rw [q]
  have hS:QP (QZ s.sent ⟨i,c.send,Je (Jx s i d tmo)⟩)=0∧(QZ s.sent ⟨i,c.send,Je (Jx s i d tmo)⟩).length≤50:=⟨Qdl b.1 (Qez D.1 (by have:=D.2.2.1;rw [L] at this;exact this) (QR _)),by omega⟩
  refine ⟨j,c,C,hj,q,⟨by omega,E⟩,?_,?_,?_,?_⟩
  · rw [e];exact QeP hf g1 hS ⟨b.2.1,b.2.2.2.2.2.1⟩ ⟨b.2.2.1,b.2.2.2.2.2.2⟩
  · rw [e];exact Qcz hw g1 g2 hS ⟨b.2.1,b.2.2.2.2.2.1⟩ ⟨b.2.2.1,b.2.2.2.2.2.2⟩
  · rw [e];exact Qg6 hj
  · rw [e];exact I.1
theorem QdD {s:St} (h:Qd s=0) {c:Cl} (hc:c∈s.clients):Qy c=0:=by
  obtain ⟨-,-,-,h4⟩:=QX h;have:=(JG _).1 h4;simp only [Bo,BH,BI,Cu,CM] at this;exact (Yu _ _).1 this.1 c hc
theorem Qd5 {s:St} {l:List Cl} (h:Qd s=0) (hl:l.length≤4) (hc:∀ c∈l,Qy c=0):Qd { s with clients:=l }=0:=by
  obtain ⟨h1,h2,h3,h4⟩:=QX h;have h5:=Dk (show decide _=false from h3);unfold Qd;rw [if_neg (by simp [h1]),if_neg (by simp [h2.1,h2.2]),if_neg (by simp [QaC];omega)]
  have h':=(JG _).1 h4;simp only [Bo,BH,BI,Cu,CM] at h';refine (JG _).2 ?_;simp only [Bo,BH,BI,Cu,CM];exact ⟨(Yu _ _).2 hc,h'.2⟩
theorem Qli {c:Cl} (h:Qy c=0):c.fits:=by
  obtain ⟨h1,-,h3,h4,-⟩:=(Yc c).1 h;simp [Zc] at h1;refine ⟨by omega,by omega,fun k hk=>?_⟩
  have:=(Qey k).1 (h4 k hk);exact ⟨by omega,by omega⟩
theorem Qcx {m:Mk} (h:JV m=0):m.fits:=by
  unfold JV at h
  split at h
  · cases h
  split at h
  · cases h
  · rename_i h1
    simp at h1;exact (show m.dig.length≤_ by omega)
theorem QqO {t:St} (h:Qd t=0) (hp:∀ p∈t.purses,p.amount<18446744073709551616):t.fits:=by
  obtain ⟨h1,-,hm,hd⟩:=QX h;have hr:=QB h;obtain ⟨f1,f2,f3,f4,f5,f6,f7,-⟩:=QE h;have b:t.purses.length≤60:=by simp [QaC] at hm;omega
  have e:QaM t.purses=0:=(JG _).1 hd _ (by simp)
  have hU:=((Qet hp).1 (by unfold Qh1;simp [b,e])).2
  simp [Zc] at h1;exact ⟨by omega,⟨by omega,fun c hc=>Qli (QdD h hc)⟩,by omega,by omega,⟨by omega,fun m hm=>Qcx (hr.sent.1 m hm)⟩,⟨by omega,fun m hm=>Qcx (hr.got.1 m hm)⟩,⟨by omega,fun m hm=>Qcx (hr.acks.1 m hm)⟩,by omega,Qh2 hU⟩
def Za (k:Int) (s t:St):Prop :=
  if k≤3 then ({ t with clients:=s.clients }:St)=s
  else if k≤7 then ({ t with conns:=s.conns }:St)=s
  else if k≤13 then ({ t with chans:=s.chans }:St)=s
  else if k=18 then ({ t with purses:=s.purses }:St)=s
  else ({ t with chans:=s.chans,sent:=s.sent,got:=s.got,acks:=s.acks,purses:=s.purses }:St)=s
theorem Za.same {k:Int} {s t:St} (h:Za k s t):t.name=s.name∧t.height=s.height∧t.time=s.time:=by
  unfold Za at h
  split at h
  · exact ⟨(Bl St.name h :),(Bl St.height h :),(Bl St.time h :)⟩
  split at h
  · exact ⟨(Bl St.name h :),(Bl St.height h :),(Bl St.time h :)⟩
  split at h
  · exact ⟨(Bl St.name h :),(Bl St.height h :),(Bl St.time h :)⟩
  split at h
  · exact ⟨(Bl St.name h :),(Bl St.height h :),(Bl St.time h :)⟩
  · exact ⟨(Bl St.name h :),(Bl St.height h :),(Bl St.time h :)⟩
theorem Qse {l:List Pu} (hr:QT l) (hl:l.length≤60) {ch:Nat} {t:Tr} (ht:t.amount<18446744073709551616) (he:QbF l ch t=0):QT (Qa6 l ch t)∧(Qa6 l ch t).length≤60:=by
  unfold QbF at he;unfold Qa6
  split at he
  · rename_i hc
    rw [if_pos hc];have:=QeI hr he;exact ⟨this.right,Bh this.len hl⟩
  · rename_i hc
    rw [if_neg hc];exact ⟨(Zq hr hl ht he).right,(Zq hr hl ht he).len⟩
theorem QtW {l:List Pu} (hr:QT l) (hl:l.length≤60) {ch:Nat} {t:Tr} (ht:t.amount<18446744073709551616) (he:QcB l ch t=0):QT (QcT l ch t)∧(QcT l ch t).length≤60:=by
  unfold QcB at he;unfold QcT
  split at he
  · rename_i hc
    rw [if_pos hc];exact ⟨(Qck hr hl ht he).1.right,(Qck hr hl ht he).1.len⟩
  · rename_i hc
    rw [if_neg hc];exact ⟨(Zq hr hl ht he).right,(Zq hr hl ht he).len⟩
theorem Qdr {s:St} (hf:s.fits):∀ p∈s.purses,p.amount<18446744073709551616:=fun p hp=>(hf.2.2.2.2.2.2.2.2 p hp).2.2
theorem QgV {l:List Pu} (h:QT l):∀ p∈l,p.amount<18446744073709551616:=fun p hp=>(h.ok p hp).2.2.2
theorem Qgl {s:St} {p:Pk} (hw:Qd s=0) (hf:s.fits) (h:Y8 s p=0):Qd (JH s p)=0∧(∀ q∈(JH s p).purses,q.amount<18446744073709551616)∧({ JH s p with purses:=s.purses }:St)=s:=by
  unfold Y8 at h;unfold JH
  by_cases h1:Jg p.data≠0
  · rw [if_pos h1]
    exact ⟨hw,Qdr hf,rfl⟩
  · rw [if_neg h1] at h ⊢
    rw [if_pos h];have hU:=Q9 hw hf;have:=QtW hU.2 hU.1 (Ys p.data).1 h;exact ⟨QaN hw this.1 this.2,QgV this.1,rfl⟩
theorem QnG (s:St) (p:Pk) (c:Ch):({ Jo s p c with chans:=s.chans,sent:=s.sent }:St)=s:=by
  unfold Jo QbX
  by_cases h:(Qv s p.src).ordered=true
  · rw [if_pos h]
  · rw [if_neg h]
theorem QjB (s:St) (p:Pk) (a:Bg):({ QbQ s p a with chans:=s.chans,got:=s.got,acks:=s.acks }:St)=s:=by
  unfold QbQ QbX
  by_cases h:(Qv s p.dst).ordered=true
  · rw [if_pos h]
  · rw [if_neg h]
theorem QlW (s:St) (p:Pk) (a:Bg):(QbQ s p a).purses=s.purses:=(Bl St.purses (QjB s p a) :)
theorem QhU {k:Int} {s t:St} (hk:13<k∧k≠18) (h:t.name=s.name∧t.height=s.height∧t.time=s.time∧t.clients=s.clients∧t.conns=s.conns):Za k s t:=by
  unfold Za;rw [if_neg (by omega),if_neg (by omega),if_neg (by omega),if_neg hk.2]
  obtain ⟨a,b,c,d,e,f,g,i,j,l⟩:=t;obtain ⟨h1,h2,h3,h4,h5⟩:=h;simp only at h1 h2 h3 h4 h5;subst h1 h2 h3 h4 h5;rfl
theorem QrV (s:St) (p:Pk) (c:Ch):(Jo s p c).name=s.name∧(Jo s p c).height=s.height∧(Jo s p c).time=s.time∧(Jo s p c).clients=s.clients∧(Jo s p c).conns=s.conns :=
  have h:=QnG s p c
  ⟨(Bl St.name h :),(Bl St.height h :),(Bl St.time h :),(Bl St.clients h :),(Bl St.conns h :)⟩
theorem Qwj (s:St) (p:Pk) (a:Bg):(QbQ s p a).name=s.name∧(QbQ s p a).height=s.height∧(QbQ s p a).time=s.time∧(QbQ s p a).clients=s.clients∧(QbQ s p a).conns=s.conns :=
  have h:=QjB s p a
  ⟨(Bl St.name h :),(Bl St.height h :),(Bl St.time h :),(Bl St.clients h :),(Bl St.conns h :)⟩
theorem Qo5 {s t:St} {p:Pk} (h0:({ JH t p with purses:=t.purses }:St)=t) (h:t.name=s.name∧t.height=s.height∧t.time=s.time∧t.clients=s.clients∧t.conns=s.conns):(JH t p).name=s.name∧(JH t p).height=s.height∧(JH t p).time=s.time∧(JH t p).clients=s.clients∧(JH t p).conns=s.conns :=
  ⟨(Bl St.name h0 :).trans h.1,(Bl St.height h0 :).trans h.2.1,(Bl St.time h0 :).trans h.2.2.1,(Bl St.clients h0 :).trans h.2.2.2.1,(Bl St.conns h0 :).trans h.2.2.2.2⟩
theorem Qnk {s:St} (p:Pk) (hw:Qd s=0) (hf:s.fits):Qd (YS s p)=0∧(YS s p).fits∧(YS s p).name=s.name∧(YS s p).height=s.height∧(YS s p).time=s.time∧(YS s p).clients=s.clients∧(YS s p).conns=s.conns:=by
  unfold YS
  by_cases h:QbL s p=true
  · rw [if_pos h]
    have hU:=Q9 hw hf;have hz:ZZ s.purses p.dst p.src (QQ p.data)=0:=by unfold QbL at h;simp at h;exact h.2.2
    have:=QlB hU.2 hU.1 (Ys p.data).1 hz;exact ⟨QaN hw this.1 this.2,Qdb hf this.1 this.2,rfl,rfl,rfl,rfl,rfl⟩
  · rw [if_neg h]
    exact ⟨hw,hf,rfl,rfl,rfl,rfl,rfl⟩
theorem Qlo (s:St) (p:Pk):(QiB s p).length=1:=by unfold QiB;split <;> rfl
theorem QjO (s:St) (m:Ms) (z:Int) (hf:s.fits) (M:m.fits) (hw:Qd s=0) (h:(QG s m z).err=0):Qd (QG s m z).st=0∧(∀ p∈(QG s m z).st.purses,p.amount<18446744073709551616)∧Za m.kind s (QG s m z).st:=by
  have hU:=Q9 hw hf;have hA:=Qdr hf
  by_cases h1:m.kind=1
  · rw [show QG s m z=Qss s m from if_pos h1] at h ⊢
    have he:QkS s m=0:=h
    have hs:(Qss s m).st={ s with clients:=s.clients ++ [YP m.chain m.trust m.known] }:=if_pos he
    rw [hs];unfold QkS at he
    split at he
    · cases he
    · refine ⟨Qd5 hw (by simp;omega) fun c hc=>?_,hA,by unfold Za;rw [if_pos (by omega)]⟩
      rcases Bw.1 hc with hc | hc
      · exact QdD hw hc
      · obtain rfl:=BQ.1 hc;exact he
  by_cases h2:m.kind=2∨m.kind=3
  · rw [show QG s m z=Y7 (QmW s m) (Qgr s m) from (if_neg h1).trans (if_pos h2)] at h ⊢
    have he:Qgr s m=0:=h;rw [show QmW s m=_ from if_pos he];unfold Qgr at he
    split at he
    · cases he
    · rename_i hr
      obtain ⟨k,hk⟩:∃ k:Nat,m.client=(k:Int):=⟨m.client.toNat,by omega⟩
      obtain ⟨x,hx⟩:∃ x,s.clients[k]?=some x:=⟨_,Bk (by omega)⟩
      rw [hk,QaS hx] at he ⊢;refine ⟨Qd5 hw (by have:=(QX hw).2.2.1;simp [QaC] at this;simp;omega) fun c hc=>?_,hA,by unfold Za;rw [if_pos (by omega)]⟩
      rcases Di hc with hc | rfl
      · exact QdD hw hc
      · unfold Qb1
        unfold Qfm at he
        split at he
        · rename_i h3
          rw [if_pos h3];unfold Qb7;rw [if_pos he];have:=QdD hw (Bn hx);exact this
        · rename_i h3
          rw [if_neg h3];exact (QkE he).2.2
  by_cases h4:m.kind=4
  · unfold QG at h ⊢
    rw [if_neg h1,if_neg h2,if_pos h4] at h ⊢;have he:QaA s m.client m.other=0:=h;have hF:=QkI (i:=0) hf he;have hp:=Bl St.purses hF.rest;exact ⟨hF.right,(hp:_=s.purses) ▸ hA,by unfold Za;rw [if_neg (by omega),if_pos (by omega)];exact hF.rest⟩
  by_cases h5:m.kind=5
  · unfold QG at h ⊢
    rw [if_neg h1,if_neg h2,if_neg h4,if_pos h5] at h ⊢;have he:Qcu s m.client m.other m.oend z=0:=h;have hF:=QlT (i:=0) hf he;have hp:=Bl St.purses hF.rest;exact ⟨hF.right,(hp:_=s.purses) ▸ hA,by unfold Za;rw [if_neg (by omega),if_pos (by omega)];exact hF.rest⟩
  by_cases h6:m.kind=6
  · unfold QG at h ⊢
    rw [if_neg h1,if_neg h2,if_neg h4,if_neg h5,if_pos h6] at h ⊢;have he:QiA s m.fin m.oend z=0:=h;have hF:=QlS hf he;have hp:=Bl St.purses hF.rest;exact ⟨hF.right,(hp:_=s.purses) ▸ hA,by unfold Za;rw [if_neg (by omega),if_pos (by omega)];exact hF.rest⟩
  by_cases h7:m.kind=7
  · unfold QG at h ⊢
    rw [if_neg h1,if_neg h2,if_neg h4,if_neg h5,if_neg h6,if_pos h7] at h ⊢;have he:QcX s m.fin z=0:=h;have hF:=QkG hf he;have hp:=Bl St.purses hF.rest;exact ⟨hF.right,(hp:_=s.purses) ▸ hA,by unfold Za;rw [if_neg (by omega),if_pos (by omega)];exact hF.rest⟩
  by_cases h8:m.kind=8
  · unfold QG at h ⊢
    rw [if_neg h1,if_neg h2,if_neg h4,if_neg h5,if_neg h6,if_neg h7,if_pos h8] at h ⊢;have he:Qav s m.fin=0:=h;have hF:=QiM (j:=0) (o:=m.ordered) hf he;have hp:=Bl St.purses hF.rest;exact ⟨hF.right,(hp:_=s.purses) ▸ hA,by unfold Za;rw [if_neg (by omega),if_neg (by omega),if_pos (by omega)];exact hF.rest⟩
  by_cases h9:m.kind=9
  · unfold QG at h ⊢
    rw [if_neg h1,if_neg h2,if_neg h4,if_neg h5,if_neg h6,if_neg h7,if_neg h8,if_pos h9] at h ⊢;have he:Qam s m.fin m.oend z=0:=h;have hF:=QkH (j:=0) (o:=m.ordered) hf he;have hp:=Bl St.purses hF.rest;exact ⟨hF.right,(hp:_=s.purses) ▸ hA,by unfold Za;rw [if_neg (by omega),if_neg (by omega),if_pos (by omega)];exact hF.rest⟩
  by_cases b:m.kind=10
  · unfold QG at h ⊢
    rw [if_neg h1,if_neg h2,if_neg h4,if_neg h5,if_neg h6,if_neg h7,if_neg h8,if_neg h9,if_pos b] at h ⊢;have he:QdM s m.fin m.oend z=0:=h;have hF:=QkF hf he;have hp:=Bl St.purses hF.rest;exact ⟨hF.right,(hp:_=s.purses) ▸ hA,by unfold Za;rw [if_neg (by omega),if_neg (by omega),if_pos (by omega)];exact hF.rest⟩
  by_cases e:m.kind=11
  · unfold QG at h ⊢
    rw [if_neg h1,if_neg h2,if_neg h4,if_neg h5,if_neg h6,if_neg h7,if_neg h8,if_neg h9,if_neg b,if_pos e] at h ⊢;have he:Zs s m.fin 2 z=0:=h;have hF:=QdS (te:=3) hf (by decide) (by decide) (by decide) he
    have hp:=Bl St.purses hF.rest;exact ⟨hF.right,(hp:_=s.purses) ▸ hA,by unfold Za;rw [if_neg (by omega),if_neg (by omega),if_pos (by omega)];exact hF.rest⟩
  by_cases q:m.kind=12
  · unfold QG at h ⊢
    rw [if_neg h1,if_neg h2,if_neg h4,if_neg h5,if_neg h6,if_neg h7,if_neg h8,if_neg h9,if_neg b,if_neg e,if_pos q] at h ⊢;have he:Jv s m.fin 3=0:=h;have hF:=QiN hf he;have hp:=Bl St.purses hF.rest;exact ⟨hF.right,(hp:_=s.purses) ▸ hA,by unfold Za;rw [if_neg (by omega),if_neg (by omega),if_pos (by omega)];exact hF.rest⟩
  by_cases A:m.kind=13
  · unfold QG at h ⊢
    rw [if_neg h1,if_neg h2,if_neg h4,if_neg h5,if_neg h6,if_neg h7,if_neg h8,if_neg h9,if_neg b,if_neg e,if_neg q,if_pos A] at h ⊢;have he:Zs s m.fin 3 z=0:=h;have hF:=QdS (te:=4) hf (by decide) (by decide) (by decide) he
    have hp:=Bl St.purses hF.rest;exact ⟨hF.right,(hp:_=s.purses) ▸ hA,by unfold Za;rw [if_neg (by omega),if_neg (by omega),if_pos (by omega)];exact hF.rest⟩
  by_cases C:m.kind=14
  · unfold QG at h ⊢
    rw [if_neg h1,if_neg h2,if_neg h4,if_neg h5,if_neg h6,if_neg h7,if_neg h8,if_neg h9,if_neg b,if_neg e,if_neg q,if_neg A,if_pos C] at h ⊢;have he:QdG s m=0:=h;have hs:Qoj s m=_:=if_pos he;rw [show (⟨Qoj s m,QdG s m,0,Qte s m⟩:Out).st=Qoj s m from rfl,hs];unfold QdG at he
    split at he
    · rename_i hh;exact absurd he hh
    split at he
    · rename_i hh;exact absurd he hh
    rename_i hh;have O:YB s m.fin (QF m.tr) m.tmo=0:=by simpa using hh
    obtain ⟨j,c,-,-,-,-,hft,S,-⟩:=Qs9 O hf;have hL:=Qse hU.2 hU.1 M.2.2.2.2.2.1.2.1 he;exact ⟨QaN S hL.1 hL.2,QgV hL.1,QhU (by omega) ⟨rfl,rfl,rfl,rfl,rfl⟩⟩
  by_cases D:m.kind=15
  · unfold QG at h ⊢
    rw [if_neg h1,if_neg h2,if_neg h4,if_neg h5,if_neg h6,if_neg h7,if_neg h8,if_neg h9,if_neg b,if_neg e,if_neg q,if_neg A,if_neg C,if_pos D] at h ⊢;have he:ZV (YS s m.pk) m.pk 1 z=0:=h;obtain ⟨q1,q2,q3⟩:=Qnk m.pk hw hf;have L:ZV (YS s m.pk) m.pk (QiB s m.pk).length z=0:=by rw [Qlo];exact he
    rw [show (Y7 (QsN s m.pk z) (Qn2 s m.pk z)).st=QbQ (YS s m.pk) m.pk (QiB s m.pk) from if_pos L];obtain ⟨g1,g2,-⟩:=QpU (QhY L) q2;have g5:=Qwj (YS s m.pk) m.pk (QiB s m.pk);exact ⟨g1,Qdr g2,QhU (by omega) ⟨g5.1.trans q3.1,g5.2.1.trans q3.2.1,g5.2.2.1.trans q3.2.2.1,g5.2.2.2.1.trans q3.2.2.2.1,g5.2.2.2.2.trans q3.2.2.2.2⟩⟩
  by_cases E:m.kind=16
  · unfold QG at h ⊢
    rw [if_neg h1,if_neg h2,if_neg h4,if_neg h5,if_neg h6,if_neg h7,if_neg h8,if_neg h9,if_neg b,if_neg e,if_neg q,if_neg A,if_neg C,if_neg D,if_pos E] at h ⊢;have he:Qnb s m z=0:=h
    show Qd (Qkg s m z)=0∧(∀ p∈(Qkg s m z).purses,p.amount<18446744073709551616)∧Za m.kind s (Qkg s m z)
    unfold Qkg;unfold Qnb at he
    split at he
    · rename_i hc
      rw [if_pos hc,show Ze s m.pk m.ack.length z=Jo s m.pk (Qv s m.pk.src).ack1 from if_pos he];obtain ⟨g1,g2,-⟩:=Qfw he hf;exact ⟨g1,Qdr g2,QhU (by omega) (QrV _ _ _)⟩
    · rename_i hc
      rw [if_neg hc]
      have hp:Zd s m.pk m.ack.length z=0:=by
        by_cases hp:Zd s m.pk m.ack.length z=0
        · exact hp
        · exact absurd (.inl hp) hc
      rw [show Ze s m.pk m.ack.length z=Jo s m.pk (Qv s m.pk.src).ack1 from if_pos hp] at he ⊢;obtain ⟨g1,g2,-⟩:=Qfw hp hf;obtain ⟨r1,r2,r3⟩:=Qgl g1 g2 he;exact ⟨r1,r2,QhU (by omega) (Qo5 r3 (QrV _ _ _))⟩
  by_cases G:m.kind=17
  · unfold QG at h ⊢
    rw [if_neg h1,if_neg h2,if_neg h4,if_neg h5,if_neg h6,if_neg h7,if_neg h8,if_neg h9,if_neg b,if_neg e,if_neg q,if_neg A,if_neg C,if_neg D,if_neg E,if_pos G] at h ⊢;have he:QnR s m z=0:=h
    show Qd (QkO s m z)=0∧(∀ p∈(QkO s m z).purses,p.amount<18446744073709551616)∧Za m.kind s (QkO s m z)
    unfold QkO;unfold QnR at he
    split at he
    · rename_i hc;exact absurd he hc
    · rename_i hc
      rw [if_neg hc];have hp:Zx s m.pk m.next m.sh.height z=0:=by simpa using hc
      rw [show Zy s m.pk m.next m.sh.height z=Jo s m.pk (Qv s m.pk.src).shut from if_pos hp] at he ⊢;obtain ⟨g1,g2,-⟩:=Qid hp hf;obtain ⟨r1,r2,r3⟩:=Qgl g1 g2 he;exact ⟨r1,r2,QhU (by omega) (Qo5 r3 (QrV _ _ _))⟩
  by_cases I:m.kind=18
  · unfold QG at h ⊢
    rw [if_neg h1,if_neg h2,if_neg h4,if_neg h5,if_neg h6,if_neg h7,if_neg h8,if_neg h9,if_neg b,if_neg e,if_neg q,if_neg A,if_neg C,if_neg D,if_neg E,if_neg G,if_pos I] at h ⊢;have he:Qaz s m.tr=0:=h;rw [show (Qhs s m).st=_ from if_pos he];unfold Qaz at he
    split at he
    · rename_i hc;exact absurd he hc
    · have hM:=Zq hU.2 hU.1 M.2.2.2.2.2.1.2.1 he
      exact ⟨QaN hw hM.right hM.len,QgV hM.right,by unfold Za;rw [if_neg (by omega),if_neg (by omega),if_neg (by omega),if_pos I]⟩
  unfold QG at h;rw [if_neg h1,if_neg h2,if_neg h4,if_neg h5,if_neg h6,if_neg h7,if_neg h8,if_neg h9,if_neg b,if_neg e,if_neg q,if_neg A,if_neg C,if_neg D,if_neg E,if_neg G,if_neg I] at h
  cases h
def QgQ (s:St) (d:ByteArray) (l:List Pu):Prop:=Q8 l d=Q8 s.purses d∨∃ i:Nat,i<s.chans.length∧Jn d i=true
theorem Qni (n:Nat) (d:ByteArray):Jn (ZQ n ++ d) n=true:=by
  unfold Jn;have e:(ZQ n ++ d).data.toList=(ZQ n).data.toList ++ d.data.toList:=by simp
  rw [e];unfold Lib.hasPrefix;simp
theorem Qqf {s:St} {l:List Pu} (hl:l=s.purses) (hU:l.length≤60∧QT l) {ch:Nat} (hc:ch<s.chans.length) {t:Tr} (ht:t.amount<18446744073709551616) (he:QbF l ch t=0) (d:ByteArray):QgQ s d (Qa6 l ch t):=by
  unfold QbF at he;unfold Qa6
  by_cases h:Jn t.denom ch=true
  · rw [if_pos h] at he ⊢
    by_cases hd:d=t.denom
    · exact .inr ⟨ch,hc,by rw [hd];exact h⟩
    · refine .inl ?_
      rw [(QeI hU.2 he).sup d,if_neg hd,hl];rfl
  · rw [if_neg h] at he ⊢
    exact .inl (by rw [(Zq hU.2 hU.1 ht he).sup d,hl])
theorem Qrk {s:St} {l:List Pu} (hl:l=s.purses) (hU:l.length≤60∧QT l) {ch:Nat} (hc:ch<s.chans.length) {t:Tr} (ht:t.amount<18446744073709551616) (he:QcB l ch t=0) (d:ByteArray):QgQ s d (QcT l ch t):=by
  unfold QcB at he;unfold QcT
  by_cases h:Jn t.denom ch=true
  · rw [if_pos h] at he ⊢
    by_cases hd:d=t.denom
    · exact .inr ⟨ch,hc,by rw [hd];exact h⟩
    · refine .inl ?_
      rw [(Qck hU.2 hU.1 ht he).1.sup d,if_neg hd,hl];rfl
  · rw [if_neg h] at he ⊢
    exact .inl (by rw [(Zq hU.2 hU.1 ht he).sup d,hl])
theorem Qrz {s:St} (hU:s.purses.length≤60∧QT s.purses) {ch:Nat} (hc:ch<s.chans.length) {other:Int} {t:Tr} (ht:t.amount<18446744073709551616) (he:ZZ s.purses (ch:Int) other t=0) (d:ByteArray):QgQ s d (Qa0 s.purses (ch:Int) other t):=by
  unfold ZZ at he;unfold Qa0
  by_cases h:Qb6 t.denom other=true
  · rw [if_pos h] at he ⊢
    exact .inl (by rw [(Zq hU.2 hU.1 ht he).sup d])
  · rw [if_neg h] at he ⊢
    by_cases hd:d=Zb (ch:Int) ++ t.denom
    · exact .inr ⟨ch,hc,by rw [hd,QpB];exact Qni _ _⟩
    · refine .inl ?_
      rw [(Qck hU.2 hU.1 ht he).1.sup d,if_neg hd];rfl
theorem Qh0 {s t:St} {p:Pk} (hw:Qd t=0) (hf:t.fits) (hp:t.purses=s.purses) (hc:p.src.toNat<s.chans.length) (h:Y8 t p=0) (d:ByteArray):QgQ s d (JH t p).purses:=by
  unfold Y8 at h;unfold JH
  by_cases h1:Jg p.data≠0
  · rw [if_pos h1]
    exact .inl (by rw [hp])
  · rw [if_neg h1] at h ⊢
    rw [if_pos h];exact Qrk hp (Q9 hw hf) hc (Ys p.data).1 h d
theorem Qj0 {s:St} {p:Pk} (h:Jf s p=0):p.src.toNat<s.chans.length:=by
  have:=(JB (Qfj h).2.1).2.1;omega
theorem Qsx (s:St) (m:Ms) (z:Int) (hf:s.fits) (C:m.fits) (hw:Qd s=0) (h:(QG s m z).err=0) (d:ByteArray):Q8 (QG s m z).st.purses d=Q8 s.purses d∨((14≤m.kind∧m.kind≤17)∧∃ i:Nat,i<s.chans.length∧Jn d i=true):=by
  have hU:=Q9 hw hf;have hP:=(QjO s m z hf C hw h).2.2
  by_cases k1:m.kind≤13
  · have hp:(QG s m z).st.purses=s.purses:=by
      unfold Za at hP
      split at hP
      · exact (Bl St.purses hP :)
      split at hP
      · exact (Bl St.purses hP :)
      · exact (Bl St.purses hP :)
    exact .inl (by rw [hp])
  have fin:QgQ s d (QG s m z).st.purses→m.kind≤17→Q8 (QG s m z).st.purses d=Q8 s.purses d∨((14≤m.kind∧m.kind≤17)∧∃ i:Nat,i<s.chans.length∧Jn d i=true):=fun h0 G=>h0.imp id fun h0=>⟨⟨by omega,G⟩,h0⟩
  have b:∀ k:Int,k≤13→m.kind≠k:=fun k hk e=>k1 (by omega)
  by_cases j:m.kind=14
  · refine fin ?_ (by omega)
    unfold QG at h ⊢;rw [if_neg (b 1 (by decide)),if_neg (fun e=>e.elim (b 2 (by decide)) (b 3 (by decide))),if_neg (b 4 (by decide)),if_neg (b 5 (by decide)),if_neg (b 6 (by decide)),if_neg (b 7 (by decide)),if_neg (b 8 (by decide)),if_neg (b 9 (by decide)),if_neg (b 10 (by decide)),if_neg (b 11 (by decide)),if_neg (b 12 (by decide)),if_neg (b 13 (by decide)),if_pos j] at h ⊢
    have he:QdG s m=0:=h;rw [show (⟨Qoj s m,QdG s m,0,Qte s m⟩:Out).st=_ from if_pos he];unfold QdG at he
    split at he
    · rename_i hh;exact absurd he hh
    split at he
    · rename_i hh;exact absurd he hh
    rename_i hh;have M:YB s m.fin (QF m.tr) m.tmo=0:=by simpa using hh
    have:=(JB (QmJ M).1).2.1;exact Qqf rfl hU (by omega) C.2.2.2.2.2.1.2.1 he d
  by_cases q:m.kind=15
  · refine fin ?_ (by omega)
    unfold QG at h ⊢;rw [if_neg (b 1 (by decide)),if_neg (fun e=>e.elim (b 2 (by decide)) (b 3 (by decide))),if_neg (b 4 (by decide)),if_neg (b 5 (by decide)),if_neg (b 6 (by decide)),if_neg (b 7 (by decide)),if_neg (b 8 (by decide)),if_neg (b 9 (by decide)),if_neg (b 10 (by decide)),if_neg (b 11 (by decide)),if_neg (b 12 (by decide)),if_neg (b 13 (by decide)),if_neg j,if_pos q] at h ⊢
    have he:ZV (YS s m.pk) m.pk 1 z=0:=h;have L:ZV (YS s m.pk) m.pk (QiB s m.pk).length z=0:=by rw [Qlo];exact he
    rw [show (Y7 (QsN s m.pk z) (Qn2 s m.pk z)).st=QbQ (YS s m.pk) m.pk (QiB s m.pk) from if_pos L,QlW];have hr:=(JB (Qmy (QhY he)).2.1).2.1;have I:(YS s m.pk).chans=s.chans:=by unfold YS;split <;> rfl
    rw [I] at hr;obtain ⟨k,hk⟩:∃ k:Nat,m.pk.dst=(k:Int):=⟨m.pk.dst.toNat,by omega⟩
    unfold YS
    by_cases hc:QbL s m.pk=true
    · rw [if_pos hc]
      have hz:ZZ s.purses m.pk.dst m.pk.src (QQ m.pk.data)=0:=by unfold QbL at hc;simp at hc;exact hc.2.2
      rw [hk] at hz ⊢;exact Qrz hU (by omega) (Ys m.pk.data).1 hz d
    · rw [if_neg hc]
      exact .inl rfl
  by_cases A:m.kind=16
  · refine fin ?_ (by omega)
    unfold QG at h ⊢;rw [if_neg (b 1 (by decide)),if_neg (fun e=>e.elim (b 2 (by decide)) (b 3 (by decide))),if_neg (b 4 (by decide)),if_neg (b 5 (by decide)),if_neg (b 6 (by decide)),if_neg (b 7 (by decide)),if_neg (b 8 (by decide)),if_neg (b 9 (by decide)),if_neg (b 10 (by decide)),if_neg (b 11 (by decide)),if_neg (b 12 (by decide)),if_neg (b 13 (by decide)),if_neg j,if_neg q,if_pos A] at h ⊢
    have he:Qnb s m z=0:=h
    show QgQ s d (Qkg s m z).purses
    unfold Qkg;unfold Qnb at he
    split at he
    · rename_i hc
      rw [if_pos hc,show Ze s m.pk m.ack.length z=Jo s m.pk (Qv s m.pk.src).ack1 from if_pos he,ZI];exact .inl rfl
    · rename_i hc
      rw [if_neg hc]
      have hp:Zd s m.pk m.ack.length z=0:=by
        by_cases hp:Zd s m.pk m.ack.length z=0
        · exact hp
        · exact absurd (.inl hp) hc
      rw [show Ze s m.pk m.ack.length z=Jo s m.pk (Qv s m.pk.src).ack1 from if_pos hp] at he ⊢;obtain ⟨g1,g2,-⟩:=Qfw hp hf;exact Qh0 g1 g2 (ZI _ _ _) (Qj0 (QhR hp).1) he d
  by_cases D:m.kind=17
  · refine fin ?_ (by omega)
    unfold QG at h ⊢;rw [if_neg (b 1 (by decide)),if_neg (fun e=>e.elim (b 2 (by decide)) (b 3 (by decide))),if_neg (b 4 (by decide)),if_neg (b 5 (by decide)),if_neg (b 6 (by decide)),if_neg (b 7 (by decide)),if_neg (b 8 (by decide)),if_neg (b 9 (by decide)),if_neg (b 10 (by decide)),if_neg (b 11 (by decide)),if_neg (b 12 (by decide)),if_neg (b 13 (by decide)),if_neg j,if_neg q,if_neg A,if_pos D] at h ⊢
    have he:QnR s m z=0:=h
    show QgQ s d (QkO s m z).purses
    unfold QkO;unfold QnR at he
    split at he
    · rename_i hc;exact absurd he hc
    · rename_i hc
      rw [if_neg hc];have hp:Zx s m.pk m.next m.sh.height z=0:=by simpa using hc
      rw [show Zy s m.pk m.next m.sh.height z=Jo s m.pk (Qv s m.pk.src).shut from if_pos hp] at he ⊢;obtain ⟨g1,g2,-⟩:=Qid hp hf;exact Qh0 g1 g2 (ZI _ _ _) (Qj0 (QhE hp)) he d
  by_cases E:m.kind=18
  · refine .inl ?_
    unfold QG at h ⊢;rw [if_neg (b 1 (by decide)),if_neg (fun e=>e.elim (b 2 (by decide)) (b 3 (by decide))),if_neg (b 4 (by decide)),if_neg (b 5 (by decide)),if_neg (b 6 (by decide)),if_neg (b 7 (by decide)),if_neg (b 8 (by decide)),if_neg (b 9 (by decide)),if_neg (b 10 (by decide)),if_neg (b 11 (by decide)),if_neg (b 12 (by decide)),if_neg (b 13 (by decide)),if_neg j,if_neg q,if_neg A,if_neg D,if_pos E] at h ⊢
    have he:Qaz s m.tr=0:=h;rw [show (Qhs s m).st=_ from if_pos he];unfold Qaz at he
    split at he
    · rename_i hc;exact absurd he hc
    · exact (Zq hU.2 hU.1 C.2.2.2.2.2.1.2.1 he).sup d
  · unfold QG at h
    rw [if_neg (b 1 (by decide)),if_neg (fun e=>e.elim (b 2 (by decide)) (b 3 (by decide))),if_neg (b 4 (by decide)),if_neg (b 5 (by decide)),if_neg (b 6 (by decide)),if_neg (b 7 (by decide)),if_neg (b 8 (by decide)),if_neg (b 9 (by decide)),if_neg (b 10 (by decide)),if_neg (b 11 (by decide)),if_neg (b 12 (by decide)),if_neg (b 13 (by decide)),if_neg j,if_neg q,if_neg A,if_neg D,if_neg E] at h
    cases h
theorem Qun (s:St) (m:Ms) (o:Nat→Option Addr) (c:Nat→Nat) (v:Value) (N:Nat) (w:World) (hk:m.kind=18) (hv:StV w N v s) (hN:N≤w.heap.size)
    (hc:∀ W,Bd w W→Calls prog 65 #[v,.agg (msC m o c).toArray] W fun e w'=>Bd W w'∧∃ v',e=.returned (.tuple #[v',Bb (Qaz s m.tr)])∧Qp N W.heap.size w' v' (Qjz s m.tr)) :
    Calls prog 31 #[v,.agg (msC m o c).toArray] w fun e w'=>Bd w w'∧∃ x,e=.returned x∧Qrc N w.heap.size w' x ⟨Qjz s m.tr,Qaz s m.tr,0,Pk.none⟩:=by
  obtain ⟨o1,c1,o2,c2,o3,c3,o4,c4,o5,c5,o6,c6,o7,c7,rfl,-⟩:=hv.open;have HC:=hid hc;clear hc hv;generalize s.clients.length=n1,s.conns.length=n2,s.chans.length=n3,s.sent.length=n4,s.got.length=n5,s.acks.length=n6,s.purses.length=n7 at *
  go_in
  go_upto_region 1 with fail
  refine Qan ?_;intro w0 F0 hs;have q0:w0.cell? ⟨w.heap.size+1,0,none⟩=some (Bb 18):=hk ▸ F0.r1.cell 0;have hkk:=hid hk;clear hs hk
  go_wp2_with (first | refine F0.load 0 rfl Qa ?_ | refine F0.load 1 rfl Z7 ?_)
  refine (HC.out _ F0.b).mono ?_;rintro e w1 ⟨q,v',rfl,hh⟩;have F1:=F0.go q;have HH:=hid hh;have l2:=F0.r2.lt;have l3:=F0.r3.lt;have z:=hid F0.b.size;obtain ⟨a1,b1,d1,a2,b2,d2,a3,b3,d3,a4,b4,d4,a5,b5,d5,a6,b6,d6,a7,b7,d7,rfl⟩:=hh.open;clear q hh HC F0 q0
  go_wp2_with fail
  refine (QcW _ _ _ _ _ _ _ _ _ _ _ _ _ _ _ _ _ _ _ _ _ _ _ _ _ _).mono ?_;rintro e w2 ⟨rfl,j⟩;have F2:=F1.go j;have A:=hid (HH.out.below j);clear j F1 HH
  go_wp2_with (first | (refine F2.store 2 rfl Qa (by simp) ?_;intro w3 F3 O3) | (refine F3.store 3 rfl QC (by simp) ?_;intro w4 F4 O4))
  refine Qbc results31 rfl F4.r2 Qa rfl F4.r3 QC rfl ⟨F4.b,_,rfl,_,none,0,0,rfl,?_,Jr _ _ _⟩;exact (((A.out.only O3 (by omega) l2).only O4 (by omega) l3)).lower z.out
def tr0:Tr:=⟨⟨#[103,111,108,100]⟩,2,⟨#[97,110,110]⟩,⟨#[98,111,98]⟩⟩
def st0:St:=⟨⟨#[97]⟩,0,0,[],[],[],[],[],[],[⟨⟨#[97,110,110]⟩,⟨#[103,111,108,100]⟩,5⟩]⟩
def hd0:Hd:=⟨⟨#[]⟩,0,0,[],[],[]⟩
def ms0:Ms:=⟨18,⟨#[]⟩,0,Kn.none,0,⟨0,⟨hd0,[],[]⟩,[]⟩,⟨0,⟨hd0,[],[]⟩,[]⟩,0,0,0,false,⟨0,⟨0,0,[],[],[]⟩,⟨false,false,⟨0,0,[],[],[]⟩,⟨0,0,[],[],[]⟩⟩⟩,tr0,0,0,Pk.none,[]⟩
theorem Qwq:Jg (QF tr0)=0:=by kernel_rfl
theorem Qwr:[tr0.sender,tr0.reader].any ZW=false:=by kernel_rfl
theorem Qwm:Qas st0.purses tr0.sender tr0.reader tr0.denom tr0.amount=0:=by kernel_rfl
theorem Qwn:(J9 st0.purses tr0.sender tr0.reader tr0.denom tr0.amount).length=2:=by kernel_rfl
theorem Qv5:Qd st0=0:=by kernel_rfl
theorem Qwi:Qaz st0 tr0=0:=by
  unfold Qaz;have h:trN tr0 [tr0.sender,tr0.reader]=0:=by unfold trN;rw [Qwq,Qwr];rfl
  rw [h,if_neg (by simp)]
  exact Qwm
theorem Qtq:tr0.fits:=⟨by show 4≤_;omega,by show 2<_;omega,by show 3≤_;omega,by show 3≤_;omega⟩
theorem QmQ:st0.fits:=⟨by show 1≤_;omega,⟨by show 0<_;omega,fun _ h=>by cases h⟩,by show 0<_;omega,by show 0<_;omega,⟨by show 0<_;omega,fun _ h=>by cases h⟩,⟨by show 0<_;omega,fun _ h=>by cases h⟩,⟨by show 0<_;omega,fun _ h=>by cases h⟩,by show 1<_;omega,fun p hp=>by
  obtain rfl:=BQ.1 hp
  exact ⟨by show 3≤_;omega,by show 4≤_;omega,by show 5<_;omega⟩⟩
theorem Qwo:Qt9 st0 (Qhs st0 ms0)=⟨{ st0 with purses:=J9 st0.purses tr0.sender tr0.reader tr0.denom tr0.amount },0,0,Pk.none⟩:=by
  have h:Qhs st0 ms0=⟨{ st0 with purses:=J9 st0.purses tr0.sender tr0.reader tr0.denom tr0.amount },0,0,Pk.none⟩:=by
    unfold Qhs Qjz;rw [show Qaz st0 ms0.tr=0 from Qwi,if_pos rfl];rfl
  unfold Qt9;rw [Qv5,if_neg (by simp),h,if_neg (by simp)]
theorem QtP (w:World):Calls prog 6 #[] w fun e w'=>e=.returned (.bool true)∧Bd w w':=by
  go_in
  go_upto_region 2 with (refine FrB.store (((FrB.nil w).addAt (t:=70) (cs:=[.string ⟨#[97,110,110]⟩,.string ⟨#[103,111,108,100]⟩,.int .u64 5]) rfl).addAt (t:=28) (cs:=[.string ⟨#[]⟩,Bb 0,Bb 0,Bc,Bc,Bc,Bc,Bc,Bc,Bc]) (g:=w.heap.size+1) (by simp)) 1 rfl Qa (by simp) ?_;intro w1 F1 O1)
  have HV:=hid (show StV w1 w1.heap.size (.agg #[.string ⟨#[97]⟩,Bb 0,Bb 0,Bc,Bc,Bc,Bc,Bc,Bc,.slice (some ⟨w.heap.size,0,none⟩) 1 1]) st0 from ⟨_,_,_,_,_,_,_,rfl,Qt.nil _ _ _ _,Qt.nil _ _ _ _,Qt.nil _ _ _ _,Qt.nil _ _ _ _,Qt.nil _ _ _ _,Qt.nil _ _ _ _,QoX (.inr (.inr ⟨w.heap.size,0,1,rfl,Bj _,fun i r hi=>by
    match i,hi with
    | 0,hi =>
      obtain rfl:=Bu hi;refine ⟨F1.r0.lt,fun j y hy=>?_⟩
      have:=F1.r0.cell j;simp only [CR,Bq];rw [this]
      exact hy⟩))⟩)
  have q:=hid (QrN st0 ms0 (fun _=>none) (fun _=>0) _ w1.heap.size w1 (Qhs st0 ms0) HV.out (Bj _) QmQ (fun _ W hb=>Qun st0 ms0 _ _ _ w1.heap.size W rfl (HV.out.below hb) hb.size (fun W2 m=>QlU st0 ms0 _ _ _ w1.heap.size W2 ((HV.out.below hb).below (m.mono hb.size)) (Bh hb.size m.size) QmQ Qtq Qv5)))
  rw [Qwo] at q;clear HV O1
  go_wp2_with (refine F1.load 1 rfl Qa ?_)
  refine Calls.mono (show Calls prog 8 #[_,.agg (msC ms0 (fun _=>none) (fun _=>0)).toArray] w1 _ from q.out) ?_
  rintro e w2 ⟨m,x,rfl,v',od,nd,cd,rfl,hh,-⟩;have F2:=F1.go m;have z:(J9 st0.purses tr0.sender tr0.reader tr0.denom tr0.amount).length=2:=Qwn;obtain ⟨o1,c1,o2,c2,o3,c3,o4,c4,o5,c5,o6,c6,o7,c7,rfl,-⟩:=hh.now.open;simp only [z];clear m hh q F1 z;simp only [st0,Pk.none]
  go_upto_region 3 with (first | (refine FrB.store ((F2.addAt (t:=28) (cs:=[.string ⟨#[]⟩,Bb 0,Bb 0,Bc,Bc,Bc,Bc,Bc,Bc,Bc]) rfl).addAt (t:=58) (cs:=[Bb 0,Bb 0,Bb 0,Bb 0,Bb 0,Bc,Bb 0]) (g:=w2.heap.size+1) (by simp)) 2 rfl Qa (by simp) ?_;intro w3 F3 O3) | (refine F3.store 3 rfl QC (by simp) ?_;intro w4 F4 O4))
  have k9:=F4.r2.k10.2.2.2.2.2.2.2.2.2;have d0:=F4.r3.k7.1;have HB:=hid F4.b;clear O3 O4 F2 F3 F4;go_wp2;go_ret;exact ⟨rfl,HB.out⟩
theorem Cn.same {x y:Cn}:(x.state≠y.state∨x.client≠y.client∨x.oclient≠y.oclient∨x.oconn≠y.oconn)↔x≠y:=by
  obtain ⟨a,b,c,d⟩:=x;obtain ⟨a',b',c',d'⟩:=y;simp only [ne_eq,Cn.mk.injEq]
  by_cases h0:a=a' <;> by_cases h1:b=b' <;> by_cases h2:c=c' <;> by_cases h3:d=d' <;> simp [h0,h1,h2,h3]
theorem Ch.same {x y:Ch}:(x.state≠y.state∨x.ordered≠y.ordered∨x.conn≠y.conn∨x.ochan≠y.ochan∨x.send≠y.send∨x.recv≠y.recv∨x.ack≠y.ack)↔x≠y:=by
  obtain ⟨a,b,c,d,e,f,g⟩:=x;obtain ⟨a',b',c',d',e',f',g'⟩:=y;simp only [ne_eq,Ch.mk.injEq]
  by_cases h0:a=a' <;> by_cases h1:b=b' <;> by_cases h2:c=c' <;> by_cases h3:d=d' <;> by_cases h4:e=e' <;> by_cases h5:f=f' <;> by_cases h6:g=g' <;> simp [h0,h1,h2,h3,h4,h5,h6]
theorem Qt.range {α:Type} {R:World→Nat→List Value→α→Prop} {k N n e i:Nat} {w:World} {oa:Option Addr} {l:List α} {x:α} (h:Qt R k w N (.slice oa n e) l) (hx:l[i]?=some x) (hl:i<n):∃ b f r,oa=some ⟨b,f,.none⟩∧R w N r x∧∀ W,Below N w W→W.rangeAt b (f+i*k) r:=by
  obtain ⟨b,f,rfl,gx⟩:=h.spot (by omega)
  obtain ⟨hb,r,hr,cx⟩:=gx i x hx;exact ⟨b,f,r,rfl,hr,fun W hW j v hj=>(hW.cell hb).trans (cx j v hj)⟩
theorem Qvf {s:St} {m:Ms} {z:Int} (h:(doO s m z).err=0):Qd s=0∧(QG s m z).err=0∧doO s m z=QG s m z:=by
  unfold doO at h ⊢
  by_cases h1:Qd s=0
  · rw [if_neg (by simp [h1])] at h ⊢
    by_cases h2:(QG s m z).err=0
    · rw [if_neg (by simp [h2])]
      exact ⟨h1,h2,rfl⟩
    · rw [if_pos h2] at h
      exact absurd h h2
  · rw [if_pos h1] at h
    exact absurd h h1
def pk (x:Option Value) (a b:Value):Value:=match x with
  | none=>a
  | some _=>b
section
variable {w:World} {g:Nat} {e0 e1 e2 e3 e4 a0 a1 a2 a3 a4 b0 b1 b2 b3 b4:Value} {τ:Nat→Option Value} {W:World}
end
theorem Qqj (n:Nat):Yo (QfF n)=Zi n:=by
  unfold Yo QfF Zi;simp
theorem QsR (n:Nat) (h:n≤9223372036854775807) (w:World):Calls prog 37 #[Bb (n:Int)] w fun e w'=>e=.returned (.string (QfF n))∧Bd w w':=by
  refine (QiV n h w).mono ?_;rintro e w' ⟨s,rfl,hs,hb⟩;rw [Qmc (hs.trans (Qqj n).symm)];exact ⟨rfl,hb⟩
theorem Qpz {d:ByteArray} {n:Nat} (h:d.size<(ZQ n).size):Jn d n=false:=by
  cases hc:Jn d n with
  | false=>rfl
  | true=>have:=Qms hc;omega
theorem Qnj {d:ByteArray} {n:Nat} (h:¬ d.size<(ZQ n).size):((d.extract 0 (ZQ n).size).toList == (ZQ n).toList)=Jn d n:=by
  unfold Jn;rw [← Lib.hasPrefix_of_take,Lib.extract_toList,Lib.toList_data,← Lib.size_eq,← Lib.size_eq];simp;omega
theorem Qrm (d:ByteArray) (n:Nat) (h:n≤9223372036854775807) (w:World):Calls prog 12 #[.string d,Bb (n:Int)] w fun e w'=>e=.returned (.tuple #[.string (if Jn d n=true then QrK d n else ⟨#[]⟩),.bool (Jn d n)])∧Bd w w':=by
  have HC:=hid (QsR n h w);have hq:∀ W:World,(Op.stringOp .add (QfF n) ⟨#[47]⟩).run prog W=.ok (.string (ZQ n)) W:=fun W=>DT W _ _ (by have:=QfG n h;show _+1≤_;omega)
  have z:=hid (Qpz (d:=d) (n:=n));have A:=hid (Qnj (d:=d) (n:=n));have j:=hid (show QrK d n=d.extract (ZQ n).size d.size from rfl);generalize ZQ n=m at *;generalize QrK d n=c at *;generalize Jn d n=q at *
  by_cases b:d.size<m.size
  · have q1:decide ((d.size:Int)<(m.size:Int))=true:=by simpa using b
    obtain rfl:=z.out b
    go_in
    go_wp2_with fail
    refine HC.out.mono ?_;rintro e w1 ⟨rfl,hb⟩;have HB:=hid hb;clear hb;go_wp2;go_ret2;exact ⟨rfl,HB.out⟩
  · have q1:decide ((d.size:Int)<(m.size:Int))=false:=by simp;omega
    have q2:decide (d.size<m.size)=false:=by simpa using b
    have q3:(m.size:Int)≤(d.size:Int):=by omega
    have q5:m.size≤d.size:=by omega
    have q4:=A.out b;clear b
    cases q with
    | false =>
      go_in
      go_wp2_with fail
      refine HC.out.mono ?_;rintro e w1 ⟨rfl,hb⟩;have HB:=hid hb;clear hb;go_wp2;go_ret2;exact ⟨rfl,HB.out⟩
    | true =>
      go_in
      go_wp2_with fail
      refine HC.out.mono ?_;rintro e w1 ⟨rfl,hb⟩;have HB:=hid hb;clear hb;go_wp2;go_ret2;exact ⟨by rw [j.out];rfl,HB.out⟩
def Qlr (d:ByteArray) (k:Nat):Bool:=(List.range k).any (Jn d)
theorem Qjb (d:ByteArray) (k:Nat):Qlr d (k+1)=(Qlr d k || Jn d k):=by
  unfold Qlr;rw [List.range_succ,List.any_append];simp
theorem Qjc {d:ByteArray} {n i:Nat} (h:i<n) (hc:Jn d i=true):Qlr d n=true:=List.any_eq_true.2 ⟨i,Ce.2 h,hc⟩
theorem QiD (s:St) (m:Ms) (d:ByteArray) (o:Nat→Option Addr) (c:Nat→Nat) (v:Value) (N:Nat) (w:World) (z:Int) (hv:StV w N v s) (hm:MsM w N m o c) (hN:N≤w.heap.size) (j:s.fits) (S:m.fits) (hi:(-9223372036854775808≤m.pk.dst∧m.pk.dst≤9223372036854775807)∧-9223372036854775808≤m.pk.src∧m.pk.src≤9223372036854775807) (aB:Qi w) (aA:QL w) (hz:Qpt s m z) :
    Calls prog 4 #[v,.agg (msC m o c).toArray,.string d] w fun e w'=>e=.returned (.bool true)∧Bd w w':=by
  have aJ:=hid (fun W (hb:Bd w W)=>QvT s m o c v N W z (hv.below (hb.mono hN)) (hm.below (hb.mono hN)) (Bh hN hb.size) j S hi (aB.past hb) (aA.below hb) hz)
  have aP:=hid (fun W (hb:Bd w W) sv (hl:Qt PuR 3 W N sv s.purses)=>Qeu s.purses d sv N W (Bh hN hb.size) hl (Qdr j) j.2.2.2.2.2.2.2.1)
  have aO:=hid (fun (t:St) (ht:t.fits) W sv (hl:Qt PuR 3 W W.heap.size sv t.purses)=>Qeu t.purses d sv W.heap.size W (Bj _) hl (Qdr ht) ht.2.2.2.2.2.2.2.1)
  have aI:=hid (fun (n:Nat) (h:n≤9223372036854775807) W=>Qrm d n h W)
  have aN:=hid (fun (h:(doO s m z).err=0)=>show (doO s m z).st.fits∧(Q8 (doO s m z).st.purses d=Q8 s.purses d∨((14≤m.kind∧m.kind≤17)∧∃ i:Nat,i<s.chans.length∧Jn d i=true)) by
    obtain ⟨h1,h2,h3⟩:=Qvf h;obtain ⟨g1,g2,-⟩:=QjO s m z j S h1 h2;rw [h3]
    exact ⟨QqO g1 g2,Qsx s m z j S h1 h2 d⟩)
  have hcl:=j.2.2.2.1;obtain ⟨o1,c1,o2,c2,o3,c3,o4,c4,o5,c5,o6,c6,o7,c7,rfl,aY⟩:=hv.open;have aL:=hid (fun W (hb:Bd w W)=>(aY.below (hb.mono hN)).purses)
  clear hv hm j S hi aB aA hz aY;generalize s.clients.length=n1,s.conns.length=n2,s.sent.length=n4,s.got.length=n5,s.acks.length=n6,s.purses.length=n7 at *;generalize s.chans.length=n3 at *
  go_in
  go_upto_region 1 with fail
  refine QdQ ?_;intro w0 F0 hs;clear hs
  go_wp2_with fail
  refine (QtP _).mono ?_;rintro e w1 ⟨rfl,aT⟩;have F1:=F0.go aT;clear aT F0
  go_wp2_with (first | refine F1.load 0 rfl Qa ?_ | refine F1.load 1 rfl Z7 ?_)
  refine (aJ.out _ F1.b).mono ?_;rintro e w2 ⟨aU,x,rfl,v',od,nd,cd,rfl,hh,-⟩;have F2:=F1.go aU;clear aU aJ F1;generalize doO s m z=D at *;obtain ⟨p1,q1,r1,p2,q2,r2,p3,q3,r3,p4,q4,r4,p5,q5,r5,p6,q6,r6,p7,q7,r7,rfl⟩:=hh.open;generalize hT:D.st=T at *;clear hT
  go_upto_region 4 with (first | (refine FrB.store ((F2.addAt (t:=28) (cs:=[.string ⟨#[]⟩,Bb 0,Bb 0,Bc,Bc,Bc,Bc,Bc,Bc,Bc]) rfl).addAt (t:=58) (cs:=[Bb 0,Bb 0,Bb 0,Bb 0,Bb 0,Bc,Bb 0]) (g:=w2.heap.size+1) (by simp)) 2 rfl Qa (by simp) ?_;intro w3 F3 O3) | (refine F3.store 3 rfl QC (by simp) ?_;intro w4 F4 O4))
  have aV:=O3.down (((Bi w2.heap.size w2).alloc (Bj _) _).alloc (by simp) _) (Bj _)
  have aW:=O4.down aV (by omega)
  have aQ:=hid (hh.below aW);have aZ:=hid F4.b;have y0:w4.cell? ⟨w2.heap.size+1,0,none⟩=some (Bb D.err):=F4.r3.cell 0;clear O3 O4 aV aW F2 F3 hh
  by_cases hz:D.err=0
  · obtain ⟨aS,M⟩:=aN.out hz
    rw [hz] at y0;clear aN hz;have k9:=F4.r0.k10.2.2.2.2.2.2.2.2.2
    go_wp2_with fail
    refine (aP.out _ F4.b _ (aL.out _ F4.b)).mono ?_;rintro e w5 ⟨rfl,aF⟩;have F5:=F4.go aF;have aR:=hid (aQ.out.below aF)
    have aM:=hid (show Qt PuR 3 w5 w5.heap.size (.slice p7 q7 r7) T.purses by
      obtain ⟨y1,y2,y3,y4,y5,y6,y7,e,ht⟩:=aR.out.now;simp only [BW,BN,BL,BO] at e;obtain ⟨-,-,-,-,-,-,-,-,-,rfl⟩:=e
      exact ht.purses)
    have aE:=hid (aO.out T aS _ _ aM.out);clear aF F4 aQ k9 y0 aP aL aO aM aR aS;have aK:=hid (fun (h:Q8 T.purses d=Q8 s.purses d)=>And.intro (Bl (fun n=>((if n<18446744073709551616 then n else 0:Nat):Int)) h) (Bl (fun n=>decide (18446744073709551616≤n)) h))
    unfold QqX at aE;unfold QqX;generalize ((if Q8 s.purses d<18446744073709551616 then Q8 s.purses d else 0:Nat):Int)=a at *
    generalize decide (18446744073709551616≤Q8 s.purses d)=x at *;generalize ((if Q8 T.purses d<18446744073709551616 then Q8 T.purses d else 0:Nat):Int)=b at *
    generalize decide (18446744073709551616≤Q8 T.purses d)=y at *;have k9:=F5.r2.k10.2.2.2.2.2.2.2.2.2
    go_wp2_with fail
    refine aE.out.mono ?_;rintro e w6 ⟨rfl,aX⟩;have F6:=F5.go aX;clear aX k9 aE F5
    by_cases O:a=b
    · subst O
      have ea:(a == a)=true:=by simp
      by_cases Y:x=y
      · subst Y
        have ex:(x == x)=true:=by simp
        have a3:=hid F6.b;clear M F6;go_wp2;go_ret;exact ⟨rfl,a3.out⟩
      have ex:(x == y)=false:=by simpa using Y
      go_upto_region 11 with fail
      obtain ⟨hk,i0,I,G⟩:=M.resolve_left (fun h=>Y (aK.out h).2.symm)
      have k5:=F6.r0.k10.2.2.2.2.2.1;have C:=hid F6;have HI:=hid (Qjc I G);have aD:=hid hk;clear M I G hk F6 ea ex Y
      go_wp2_with fail
      go_loopw [13,14,15,16,53] (fun aH _ _ _ q wr=>∃ k:Nat,k≤n3∧q=Bb (k:Int)∧aH=.bool (Qlr d k)∧Hid (Bd w6 wr)) (fun _ _ _ _ q _=>n3-(intOf q).toNat)
      case atStart=>exact ⟨0,BF _,rfl,rfl,hid (Bi _ _)⟩
      case round =>
        obtain ⟨k,hk,rfl,rfl,HB⟩:=hrel
        by_cases L:k<n3
        · have hlt':(k:Int)<(n3:Int):=by omega
          have HC:=hid (aI.out k (by omega) wr)
          have HA:=hid (Qjb d k);clear L
          go_wp2_with fail
          refine HC.out.mono ?_;rintro e w7 ⟨rfl,E⟩;have A:=hgo HB E;clear E;generalize (if Jn d k=true then QrK d k else (⟨#[]⟩:ByteArray))=cs at *
          generalize Jn d k=cb at *;generalize Qlr d k=ac at *
          cases ac with
          | true =>
            go_wp2;go_roundw
            case rel=>exact ⟨k+1,by omega,by go_num,by rw [HA.out];rfl,A⟩
            case measure=>simp [intOf];omega
          | false =>
            go_wp2;go_roundw
            case rel=>exact ⟨k+1,by omega,by go_num,by rw [HA.out];rfl,A⟩
            case measure=>simp [intOf];omega
        · have a4:decide ((k:Int)<(n3:Int))=false:=by simp;omega
          obtain rfl:k=n3:=by omega
          rw [HI.out];have q0:wr.cell? ⟨w.heap.size+1,0,none⟩=some (Bb m.kind):=(C.out.go HB.out).r1.cell 0;have aC:=hid (C.out.go HB.out).b;have aG:=aD.out;have h4:m.kind=14∨m.kind=15∨m.kind=16∨m.kind=17:=by omega
          clear L HB aG
          rcases h4 with h4 | h4 | h4 | h4
          all_goals
            rw [h4] at q0;clear h4;go_wp2;go_ret;exact ⟨rfl,aC.out⟩
    · have ea:(a == b)=false:=by simpa using O
      go_upto_region 11 with fail
      obtain ⟨hk,i0,I,G⟩:=M.resolve_left (fun h=>O (aK.out h).1.symm)
      have k5:=F6.r0.k10.2.2.2.2.2.1;have C:=hid F6;have HI:=hid (Qjc I G);have aD:=hid hk;clear M I G hk F6 ea O
      go_wp2_with fail
      go_loopw [13,14,15,16,53] (fun aH _ _ _ q wr=>∃ k:Nat,k≤n3∧q=Bb (k:Int)∧aH=.bool (Qlr d k)∧Hid (Bd w6 wr)) (fun _ _ _ _ q _=>n3-(intOf q).toNat)
      case atStart=>exact ⟨0,BF _,rfl,rfl,hid (Bi _ _)⟩
      case round =>
        obtain ⟨k,hk,rfl,rfl,HB⟩:=hrel
        by_cases L:k<n3
        · have hlt':(k:Int)<(n3:Int):=by omega
          have HC:=hid (aI.out k (by omega) wr)
          have HA:=hid (Qjb d k);clear L
          go_wp2_with fail
          refine HC.out.mono ?_;rintro e w7 ⟨rfl,E⟩;have A:=hgo HB E;clear E;generalize (if Jn d k=true then QrK d k else (⟨#[]⟩:ByteArray))=cs at *
          generalize Jn d k=cb at *;generalize Qlr d k=ac at *
          cases ac with
          | true =>
            go_wp2;go_roundw
            case rel=>exact ⟨k+1,by omega,by go_num,by rw [HA.out];rfl,A⟩
            case measure=>simp [intOf];omega
          | false =>
            go_wp2;go_roundw
            case rel=>exact ⟨k+1,by omega,by go_num,by rw [HA.out];rfl,A⟩
            case measure=>simp [intOf];omega
        · have a4:decide ((k:Int)<(n3:Int))=false:=by simp;omega
          obtain rfl:k=n3:=by omega
          rw [HI.out];have q0:wr.cell? ⟨w.heap.size+1,0,none⟩=some (Bb m.kind):=(C.out.go HB.out).r1.cell 0;have aC:=hid (C.out.go HB.out).b;have aG:=aD.out;have h4:m.kind=14∨m.kind=15∨m.kind=16∨m.kind=17:=by omega
          clear L HB aG
          rcases h4 with h4 | h4 | h4 | h4
          all_goals
            rw [h4] at q0;clear h4;go_wp2;go_ret;exact ⟨rfl,aC.out⟩
  · have hzb:(D.err != 0)=true:=by simpa using hz
    go_wp2;go_ret;exact ⟨rfl,aZ.out⟩
theorem QiC (s:St) (m:Ms) (d:ByteArray) (v mv:Value) (N:Nat) (w:World) (j:QL w) (q:Qi w) (hN:N≤w.heap.size) (hv:StV w N v s) (hm:MsV w N mv m) (hf:s.fits) (b:m.fitsR) :
    Calls prog 4 #[v,mv,.string d] w fun e w'=>e=.returned (.bool true)∧Bd w w':=by
  obtain ⟨o,c,rfl,hm⟩:=hm;obtain ⟨z,hz⟩:=Qpu s m;exact QiD s m d o c v N w z hv hm hN hf b.1 b.2 q j hz
theorem Qwh : prog.globalNamed "internal/strconv.uint64pow10" = some 2 := by kernel_rfl
theorem QrT:(prog.globals[2]?).map (·.type)=some 328:=by kernel_rfl
theorem Qro:prog.cellsOf 328=20:=by kernel_rfl
theorem Qrr:prog.cellsOf 47=1:=by kernel_rfl
theorem QsK:(Rows.laid_internal_strconv_uint64pow10:DataW Unit)=Lib.tabData .u64 Lib.pow10Tab:=by kernel_rfl
def QgM (w:World) (g:Nat) (cs:Array Value):World :=
  { w with heap:=w.heap.modify g fun
      | .cells _ t frozen=>.cells cs t frozen
      | o=>o }
def QoA (w:World):World:=QgM (QgM (QgM w 3 #[.int .u8 0,.int .u8 1,.int .u8 28,.int .u8 2,.int .u8 29,.int .u8 14,.int .u8 24,.int .u8 3,.int .u8 30,.int .u8 22,.int .u8 20,.int .u8 15,.int .u8 25,.int .u8 17,.int .u8 4,.int .u8 8,.int .u8 31,.int .u8 27,.int .u8 13,.int .u8 23,.int .u8 21,.int .u8 19,.int .u8 16,.int .u8 7,.int .u8 26,.int .u8 12,.int .u8 18,.int .u8 6,.int .u8 11,.int .u8 5,.int .u8 10,.int .u8 9]) 4 #[.int .u8 0,.int .u8 1,.int .u8 56,.int .u8 2,.int .u8 57,.int .u8 49,.int .u8 28,.int .u8 3,.int .u8 61,.int .u8 58,.int .u8 42,.int .u8 50,.int .u8 38,.int .u8 29,.int .u8 17,.int .u8 4,.int .u8 62,.int .u8 47,.int .u8 59,.int .u8 36,.int .u8 45,.int .u8 43,.int .u8 51,.int .u8 22,.int .u8 53,.int .u8 39,.int .u8 33,.int .u8 30,.int .u8 24,.int .u8 18,.int .u8 12,.int .u8 5,.int .u8 63,.int .u8 55,.int .u8 48,.int .u8 27,.int .u8 60,.int .u8 41,.int .u8 37,.int .u8 16,.int .u8 46,.int .u8 35,.int .u8 44,.int .u8 21,.int .u8 52,.int .u8 32,.int .u8 23,.int .u8 11,.int .u8 54,.int .u8 26,.int .u8 40,.int .u8 15,.int .u8 34,.int .u8 20,.int .u8 31,.int .u8 10,.int .u8 25,.int .u8 14,.int .u8 19,.int .u8 9,.int .u8 13,.int .u8 8,.int .u8 7,.int .u8 6]) 2 #[.int .u64 1,.int .u64 10,.int .u64 100,.int .u64 1000,.int .u64 10000,.int .u64 100000,.int .u64 1000000,.int .u64 10000000,.int .u64 100000000,.int .u64 1000000000,.int .u64 10000000000,.int .u64 100000000000,.int .u64 1000000000000,.int .u64 10000000000000,.int .u64 100000000000000,.int .u64 1000000000000000,.int .u64 10000000000000000,.int .u64 100000000000000000,.int .u64 1000000000000000000,.int .u64 10000000000000000000]
def Qhh:List Int:=[1116352408,1899447441,3049323471,3921009573,961987163,1508970993,2453635748,2870763221,3624381080,310598401,607225278,1426881987,1925078388,2162078206,2614888103,3248222580,3835390401,4022224774,264347078,604807628,770255983,1249150122,1555081692,1996064986,2554220882,2821834349,2952996808,3210313671,3336571891,3584528711,113926993,338241895,666307205,773529912,1294757372,1396182291,1695183700,1986661051,2177026350,2456956037,2730485921,2820302411,3259730800,3345764771,3516065817,3600352804,4094571909,275423344,430227734,506948616,659060556,883997877,958139571,1322822218,1537002063,1747873779,1955562222,2024104815,2227730452,2361852424,2428436474,2756734187,3204031479,3329325298]
theorem QvX : prog.globalNamed "landbridge/sha.cubes" = some 1 := by kernel_rfl
theorem QrU:(prog.globals[1]?).map (·.type)=some 295:=by kernel_rfl
theorem Qrq:prog.cellsOf 295=64:=by kernel_rfl
theorem QpC:prog.cellsOf 226=1:=by kernel_rfl
theorem Qt6:∀ t,t<64→Qhh.getD t 0=u (Qp4.getD t 0):=by decide +kernel
theorem QrG:(Rows.laid_landbridge_sha_cubes:DataW Unit)=Lib.tabData .u32 Qhh:=by kernel_rfl
theorem QqA {W : World} {a b d : String × DataW Unit} (h : laidMet prog [a, b, ("internal/strconv.uint64pow10", Rows.laid_internal_strconv_uint64pow10), d] W) : QL W := by
  rw [QsK] at h;obtain ⟨_,⟨_,_,_,_,_,_,_,_,_,_,⟨_,_,_,_,_,_,_,_,_,_,⟨g',t',cs,fuel,p,q,j,m,e,hd,_,_⟩,_⟩,_⟩,_⟩:=h;obtain rfl:=Bu (Qwh.symm.trans j);obtain rfl:=Bu (QrT.symm.trans m);unfold QL Lib.TabIs;rw [e,← Lib.cells_of_tab underlying328 underlying47 Qrr Qro hd]
theorem QmU {W : World} {a b c : String × DataW Unit} (h : laidMet prog [a, b, c, ("landbridge/sha.cubes", Rows.laid_landbridge_sha_cubes)] W) : Qi W := by
  rw [QrG] at h;obtain ⟨_,⟨_,_,_,_,_,_,_,_,_,_,⟨_,_,_,_,_,_,_,_,_,_,⟨_,_,_,_,_,_,_,_,_,_,⟨g',t',cs,fuel,p,q,m,z,j,hd,_,_⟩,_⟩,_⟩,_⟩,_⟩:=h;obtain rfl:=Bu (QvX.symm.trans m);obtain rfl:=Bu (QrU.symm.trans z)
  have ht : Lib.TabIs prog W "landbridge/sha.cubes" .u32 Qhh := by
    unfold Lib.TabIs;rw [j,← Lib.cells_of_tab underlying295 underlying226 QpC Qrq hd]
  intro t e;rw [ht.cell QvX t e,Qt6 t e]
def Qdm (w:World):World:=QgM (QoA w) 1 #[.int .u32 1116352408,.int .u32 1899447441,.int .u32 3049323471,.int .u32 3921009573,.int .u32 961987163,.int .u32 1508970993,.int .u32 2453635748,.int .u32 2870763221,.int .u32 3624381080,.int .u32 310598401,.int .u32 607225278,.int .u32 1426881987,.int .u32 1925078388,.int .u32 2162078206,.int .u32 2614888103,.int .u32 3248222580,.int .u32 3835390401,.int .u32 4022224774,.int .u32 264347078,.int .u32 604807628,.int .u32 770255983,.int .u32 1249150122,.int .u32 1555081692,.int .u32 1996064986,.int .u32 2554220882,.int .u32 2821834349,.int .u32 2952996808,.int .u32 3210313671,.int .u32 3336571891,.int .u32 3584528711,.int .u32 113926993,.int .u32 338241895,.int .u32 666307205,.int .u32 773529912,.int .u32 1294757372,.int .u32 1396182291,.int .u32 1695183700,.int .u32 1986661051,.int .u32 2177026350,.int .u32 2456956037,.int .u32 2730485921,.int .u32 2820302411,.int .u32 3259730800,.int .u32 3345764771,.int .u32 3516065817,.int .u32 3600352804,.int .u32 4094571909,.int .u32 275423344,.int .u32 430227734,.int .u32 506948616,.int .u32 659060556,.int .u32 883997877,.int .u32 958139571,.int .u32 1322822218,.int .u32 1537002063,.int .u32 1747873779,.int .u32 1955562222,.int .u32 2024104815,.int .u32 2227730452,.int .u32 2361852424,.int .u32 2428436474,.int .u32 2756734187,.int .u32 3204031479,.int .u32 3329325298]
end Go.Proofs.YtnedafiokmjkkaaGreatDoor
namespace Go.Proofs.YtnedafiokmjkkaaGreatDoor.appSupply
open Go.Proofs.Tryz
set_option maxRecDepth 1000000
set_option maxHeartbeats 8000000
open Go.ChangeShapes Go.WideShapes Go.ChangeAt Go.RowKit
theorem own:ownKnob prog.godebug=none:=by kernel_rfl
theorem QkM:laidOutB prog=true:=by kernel_rfl
theorem QrB (H:Type) (enc:TypeId×Value→H) (W:World) (base:Nat) (b:Array Value) (ds gs:List (DataW H)) (C:List MemPlace)
    (A:∀ (j:Nat) t v,Tryz.f4.params[j]?=some t→b[j]?=some v→Value.okWide prog W .any base t v)
    (hW:DataW.Whole enc prog Tryz.f4.params.toList Rows.appSupplySpec.vars false W b.toList ds gs C)
    (z:(DataW.weightsEach prog (Tryz.f4.params.toList ++ (OpenSpec.ofChange Rows.appSupplySpec).bare.plain.varTypes prog) (ds ++ gs)).all (·≤reachBytes)=true)
    (hL:laidMetH prog Rows.appSupplyRow.laid W) :
    Calls prog 4 b W fun e W'=>∃ v,e=.returned v∧Rows.appSupplySpec.post enc prog Tryz.f4 false true false false W b v W':=by
  have O:Qi W:=QmU hL;have M:QL W:=QqA hL;have S:=hW;obtain ⟨p,q,G,hV,rfl,hfz,hnd⟩:=hW;have hA:DataW.TrodAll enc prog W 0 (fun _=>true) true Tryz.f4.params.toList b.toList ds p:=G
  rw [params4] at hA A z;obtain ⟨v0,vs0,d0,ds0,p0,q0,hargs0,rfl,rfl,h0,r0⟩:=trodAll_cons hA;obtain ⟨v1,vs1,d1,ds1,p1,q1,D,rfl,rfl,h1,r1⟩:=trodAll_cons r0;subst D;obtain ⟨v2,vs2,d2,ds2,p2,q2,E,rfl,rfl,h2,r2⟩:=trodAll_cons r1;subst E;obtain ⟨rfl,rfl,rfl⟩:=trodAll_nil r2;obtain rfl:b=#[v0,v1,v2]:=by cases b;simp_all
  obtain ⟨rfl,rfl⟩:=trodVars_none hV;have k0:=h0;have aD:∀ x∈p0,x.block<W.heap.size:=by obtain ⟨m,hm⟩:=k0;exact DataW.trod_lt m _ _ _ hm
  have aA:∀ y∈d0.weights prog 28,y≤reachBytes:=fun y hy=>by
    have:=List.all_eq_true.1 z _ (DataW.weights_mem_each (j:=0) (t:=28) rfl rfl y hy);simpa using this
  obtain ⟨g0,T,I⟩:=Qom (A 0 28 v0 rfl rfl) h0 aA;have k1:=h1;have aE:∀ x∈p1,x.block<W.heap.size:=by obtain ⟨m,hm⟩:=k1;exact DataW.trod_lt m _ _ _ hm
  have aB:∀ y∈d1.weights prog 53,y≤reachBytes:=fun y hy=>by
    have:=List.all_eq_true.1 z _ (DataW.weights_mem_each (j:=1) (t:=53) rfl rfl y hy);simpa using this
  obtain ⟨g1,Y,L⟩:=Qsp (A 1 53 v1 rfl rfl) h1 aB;have k2:=h2;have aF:∀ x∈p2,x.block<W.heap.size:=by obtain ⟨m,hm⟩:=k2;exact DataW.trod_lt m _ _ _ hm
  have aC:∀ y∈d2.weights prog 9,y≤reachBytes:=fun y hy=>by
    have:=List.all_eq_true.1 z _ (DataW.weights_mem_each (j:=2) (t:=9) rfl rfl y hy);simpa using this
  obtain ⟨s2,rfl,hs2⟩:=QmR (A 2 9 v2 rfl rfl) h2 aC;clear G;refine (QiC g0 g1 s2 v0 v1 W.heap.size W M O (Nat.le_refl _) T Y I L).mono fun e W' ⟨he,bel⟩=>?_
  subst he;exact ⟨_,rfl,_,_,_,[],_,[],S,trodAll_mk1 (shut_bool underlying4 _),(trodAll_cons_mk (Below.trod QkM (by kernel_rfl) (of_decide_eq_true (by kernel_rfl)) k0 bel aD) (trodAll_cons_mk (Below.trod QkM (by kernel_rfl) (of_decide_eq_true (by kernel_rfl)) k1 bel aE) (trodAll_cons_mk (Below.trod QkM (by kernel_rfl) (of_decide_eq_true (by kernel_rfl)) k2 bel aF) trodAll_mk0))),rfl,bel.frame _,fun h=>by cases h⟩
theorem Qr9 (os:Os):laidMet prog Rows.appSupplyRow.laid ((Qdm (World.holding prog os ⟨#[],#[],[]⟩)).forCall (fun _ _=>0) ⟨#[],#[.agg #[.string ⟨#[]⟩,.int .i64 0,.int .i64 0,.slice none 0 0,.slice none 0 0,.slice none 0 0,.slice none 0 0,.slice none 0 0,.slice none 0 0,.slice none 0 0],.agg (msC msZ (fun _=>none) (fun _=>0)).toArray,.string ⟨#[]⟩],[]⟩).memory :=
  laidMet_of_run' 8 (by kernel_rfl) (by kernel_rfl)
theorem QbW (os:Os) {H:Type} (enc:TypeId×Value→H):∃ b,DataW.whole enc prog ((Qdm (World.holding prog os ⟨#[],#[],[]⟩)).forCall (fun _ _=>0) ⟨#[],#[.agg #[.string ⟨#[]⟩,.int .i64 0,.int .i64 0,.slice none 0 0,.slice none 0 0,.slice none 0 0,.slice none 0 0,.slice none 0 0,.slice none 0 0,.slice none 0 0],.agg (msC msZ (fun _=>none) (fun _=>0)).toArray,.string ⟨#[]⟩],[]⟩).memory Tryz.f4.params.toList Rows.appSupplySpec.vars false #[Value.agg #[.string ⟨#[]⟩,.int .i64 0,.int .i64 0,.slice none 0 0,.slice none 0 0,.slice none 0 0,.slice none 0 0,.slice none 0 0,.slice none 0 0,.slice none 0 0],Value.agg (msC msZ (fun _=>none) (fun _=>0)).toArray,Value.string ⟨#[]⟩].toList 8=some ([.agg [.lit (.string []),.lit (.int .i64 0),.lit (.int .i64 0),.nil,.nil,.nil,.nil,.nil,.nil,.nil],.agg [.lit (.int .i64 0),.lit (.string []),.lit (.int .i64 0),.agg [.lit (.int .i64 0),.lit (.int .i64 0),.nil,.nil],.lit (.int .i64 0),.agg [.lit (.int .i64 0),.agg [.agg [.lit (.string []),.lit (.int .i64 0),.lit (.int .i64 0),.nil,.nil,.nil],.nil,.nil],.nil],.agg [.lit (.int .i64 0),.agg [.agg [.lit (.string []),.lit (.int .i64 0),.lit (.int .i64 0),.nil,.nil,.nil],.nil,.nil],.nil],.lit (.int .i64 0),.lit (.int .i64 0),.lit (.int .i64 0),.lit (.bool false),.agg [.lit (.int .i64 0),.agg [.lit (.int .i64 0),.lit (.int .i64 0),.nil,.nil,.nil],.agg [.lit (.bool false),.lit (.bool false),.agg [.lit (.int .i64 0),.lit (.int .i64 0),.nil,.nil,.nil],.agg [.lit (.int .i64 0),.lit (.int .i64 0),.nil,.nil,.nil]]],.agg [.lit (.string []),.lit (.int .u64 0),.lit (.string []),.lit (.string [])],.lit (.int .i64 0),.lit (.int .i64 0),.agg [.lit (.int .i64 0),.lit (.int .i64 0),.lit (.int .i64 0),.nil,.lit (.int .i64 0)],.nil],.lit (.string [])],[],b) :=
  ⟨[],by kernel_rfl⟩
theorem Qvj (os:Os) (b:os.Started) (H:Type) (enc:TypeId×Value→H) (F:Stop.Interp) :
    ReturnsInHanded {} checked os 4 .any ((OpenSpec.ofChange Rows.appSupplySpec).preRow enc prog Tryz.f4 Rows.appSupplyRow.domain false Rows.appSupplyRow.laid) (((OpenSpec.ofChange Rows.appSupplySpec).at F).post enc prog Tryz.f4 false true false false):=by
  obtain ⟨places,hx⟩:=QbW os enc
  refine returnsInHanded_of_row (C:=checked) (s:=OpenSpec.ofChange Rows.appSupplySpec) own b (by kernel_rfl) func4
    (witness_row_at (enc:=enc) (C:=checked) false (Qdm (World.holding prog os ⟨#[],#[],[]⟩)) #[.agg #[.string ⟨#[]⟩,.int .i64 0,.int .i64 0,.slice none 0 0,.slice none 0 0,.slice none 0 0,.slice none 0 0,.slice none 0 0,.slice none 0 0,.slice none 0 0],.agg (msC msZ (fun _=>none) (fun _=>0)).toArray,.string ⟨#[]⟩] rfl (by kernel_rfl) (by kernel_rfl) (by kernel_rfl)
      (OpenSpec.preRow_of_cond 8 hx (by kernel_rfl) (fun k hk=>by cases hk) (by kernel_rfl) (Qr9 os))) ?_
  intro W base j ds gs e m hW _ _ q hL _ _;exact QrB H enc W base j ds gs e m hW q hL
theorem Zt {a b:Bool} (ha:a=true) (hb:b=true):(a && b)=true:=by rw [ha,hb];rfl
theorem Qwd:(Rows.appSupplyRow.inPlace == prog.inPlace 4)=true:=by kernel_rfl
theorem Qwe:(Rows.appSupplyRow.unfollowed == prog.unfollowed 4)=true:=by kernel_rfl
theorem Qwf:(Rows.appSupplyRow.recurses == prog.recurses 4)=true:=by kernel_rfl
theorem Qwg:(Rows.appSupplyRow.named == prog.varsNamed 4)=true:=by kernel_rfl
theorem closed:joinedFacts prog 4 Tryz.f4 (OpenSpec.ofChange Rows.appSupplySpec).bare Rows.appSupplyRow=true:=by
  unfold joinedFacts;refine Zt (Zt (Zt (Zt (Zt (Zt (Zt (Zt (Zt (Zt (Zt (Zt (Zt (Zt (Zt (Zt (Zt (Zt (Zt (Zt (Zt (Zt (Zt (Zt (Zt (Zt (Zt (Zt (Zt (Zt (Zt ?_ ?_) ?_) ?_) ?_) ?_) ?_) ?_) ?_) Qwd) Qwe) Qwf) Qwg) ?_) ?_) ?_) ?_) ?_) ?_) ?_) ?_) ?_) ?_) ?_) ?_) ?_) ?_) ?_) ?_) ?_) ?_) ?_
  all_goals as_aux_lemma=>kernel_rfl
theorem Qvg:prog.funcNamed Rows.appSupplyRow.func=some 4:=by kernel_rfl
theorem QvY:Tryz.f4.isInstance prog Rows.appSupplyRow.origin Rows.appSupplyRow.targs:=of_decide_eq_true (by kernel_rfl)
theorem said:Rows.AppSupplySaid :=
  OpenClaim.holds_of_cond 4 Tryz.f4 rfl rfl rfl rfl rfl rfl rfl ⟨rfl,rfl,rfl,rfl,rfl⟩ rfl rfl rfl rfl rfl Qvg func4 closed
    QvY (by unfold Func.isWrapper;first | (rw [if_pos (by decide +kernel)];kernel_rfl) | (rw [if_neg (by decide +kernel)];exact ⟨rfl,rfl⟩))
    (fun os b H enc _ F=>by rw [OpenClaim.pre_eq_preRow];exact Qvj os b H enc F)
theorem plain (f : FuncId) (fn : Func) (hf : Tryz.pinned.checked.prog.funcNamed "landbridge/landlaw13.AppSupply" = some f) (b : Tryz.pinned.checked.prog.funcs[f]? = some fn) :
    false=Tryz.pinned.checked.prog.looks []∧∀ (j:Nat) t,fn.params[j]?=some t→Tryz.pinned.checked.prog.wantsStandIn t=false:=by
  obtain rfl : f = 4 := Option.some.inj ((show prog.funcNamed "landbridge/landlaw13.AppSupply" = some 4 by kernel_rfl).symm.trans hf) |>.symm
  obtain rfl:fn=Tryz.f4:=(Option.some.inj (func4.symm.trans b)).symm;refine ⟨by kernel_rfl,fun j t ht=>?_⟩
  rw [params4] at ht;have hm:t=28∨t=53∨t=9:=by simpa using Array.mem_of_getElem? ht
  rcases hm with rfl | rfl | rfl
  · exact (show prog.wantsStandIn 28=false by kernel_rfl)
  · exact (show prog.wantsStandIn 53=false by kernel_rfl)
  · exact (show prog.wantsStandIn 9=false by kernel_rfl)
end Go.Proofs.YtnedafiokmjkkaaGreatDoor.appSupply
namespace Go.Proofs.YtnedafiokmjkkaaGreatDoor
open Go.Proofs.Tryz
set_option maxRecDepth 1000000
set_option maxHeartbeats 8000000
theorem appSupply_card:Rows.AppSupplyCardSaid :=
  Claim7.holds_tied_plain_at .later [] _ _ _ _ appSupply.said (fun _ h=>by cases h) (by kernel_rfl) (fun _ h=>by cases h) appSupply_row_tie rfl ⟨rfl,rfl⟩ (by kernel_rfl) rfl appSupply.plain (by kernel_rfl)
end Go.Proofs.YtnedafiokmjkkaaGreatDoor
