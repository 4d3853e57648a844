/- AppRefused returns true of every state and of every message. -/
import Derived.Test.YtnedafiokmjkkaaGreatDoorraApShape
import Derived.Test.YtnedafiokmjkkaaGreatDoorRows
import Derived.Test.YtnedafiokmjkkaaGreatDoorCards
import Derived.Test.YtnedafiokmjkkaaGreatDoorTie
import Derived.Laws.StructEq
import Derived.Deep.Strs
import Derived.Deep.FieldsWide
import Derived.ChangeMaps5
import Derived.Lib.LaidTab
namespace Go.Proofs.YtnedafiokmjkkaaGreatDoor
open Go.Proofs.Tryz
set_option maxRecDepth 1000000
set_option maxHeartbeats 8000000
open Go.ChangeShapes Go.WideShapes Go.ChangeAt Go.RowKit
theorem Qi0 (b d i:Nat):(⟨b,d,none⟩:Addr).add i=⟨b,d+i,none⟩:=by unfold Addr.add;split <;> simp_all
theorem Js {H:Type} {enc:TypeId×Value→H} {W:World} {e:Nat} {v:Value} {x:DataW H×List MemPlace}
    (hf:DataW.trod enc prog W 0 (fun _=>true) true e 29 [v]=some x) (j:∀ y∈x.1.weights prog 29,y≤reachBytes) :
    ∃ l,Bytes W W.heap.size v l∧l.length≤140737488351232:=by
  rcases open_ints underlying29 underlying5 (by kernel_rfl) hf with ⟨b,_⟩ | ⟨a,len,d,zs,b,_⟩
  · obtain rfl:v=Bc:=by simpa using b
    exact ⟨[],.inl ⟨rfl,rfl⟩,by simp⟩
  · obtain rfl:v=.slice (some a) len d:=by simpa using b
    refine QcO (a0:=some a) (len0:=len) (cap0:=d) (x:=x) hf (fun elems spare he=>?_)
    refine j _ ?_;rw [he];simp [DataW.weights,underlying29]
theorem JJ {H:Type} (P:Program) (e:TypeId) (l:List (DataW H)) (d:DataW H) (hd:d∈l) (y:Nat) (hy:y∈d.weights P e):y∈DataW.weightsAll P e l:=by
  induction l with
  | nil=>simp at hd
  | cons a r ih =>
    simp only [DataW.weightsAll]
    rcases Bo.1 hd with rfl | h
    · simp_all
    · simp_all
theorem QgG {W:World} {a:Addr} {len m k:Nat} {α:Type} [Inhabited α] (d:α→List Value) (P:α→Prop) (hk:0<k) (q:∀ r,(d r).length=k) (hl:len≤m)
    (each:∀ i,i<len→∃ r,W.cells? 0 (a.add (i*k)) k=some (d r)∧P r):∃ l:List α,Q9 W W.heap.size (.slice (some a) len m) k (l.map d)∧(∀ r∈l,P r)∧l.length=len:=by
  obtain ⟨f,C⟩:=Deep.choose_lt each;refine ⟨(List.range len).map f,?_,fun r hr=>?_,by simp⟩
  · by_cases h0:len=0
    · subst h0
      exact .inr (.inl ⟨a,m,rfl,rfl⟩)
    · have z:∀ i,i<len→∀ j,j<k→W.cell? ((a.add (i*k)).add j)=(d (f i))[j]?:=fun i hi j hj=>(CV (C i hi).1).2.2 j hj
      obtain ⟨b,D,E⟩:=a;have hc:=z 0 (by omega) 0 hk
      rw [Bk (by rw [q];exact hk)] at hc
      have A:E=none:=by simpa [Addr.add] using World.cell?_spot hc
      subst A;refine .inr (.inr ⟨b,D,m,by simp,by simpa using hl,fun i r hr=>?_⟩)
      have hi:i<len:=by have:=(Bm.1 hr).1;simpa using this
      obtain rfl:d (f i)=r:=by
        rw [Bt,Bt,List.getElem?_range hi] at hr;simpa using hr
      have e:∀ j x,(d (f i))[j]?=some x→W.cell? ⟨b,D+i*k+j,none⟩=some x:=fun j x hx=>by
        have hj:j<k:=by have:=(Bm.1 hx).1;rwa [q] at this
        have:=z i hi j hj
        rwa [Qi0,Qi0,hx] at this
      refine ⟨CF (e 0 _ (Bk (by rw [q];exact hk))),e⟩
  · obtain ⟨i,hi,rfl⟩:=BD.1 hr
    exact (C i (Cg.1 hi)).2
theorem QfJ {z:Int} (h:(Lit.int .u64 z).wf=true):∃ n:Nat,z=n∧n<18446744073709551616:=by
  have:0≤z∧z<18446744073709551616:=by
    simp [Lit.wf,IntKind.min,IntKind.max,IntKind.signed,IntKind.bits] at h;omega
  exact ⟨z.toNat,by omega,by omega⟩
theorem QjX {H:Type} {enc:TypeId×Value→H} {W:World} {e:Nat} {v:Value} {x:DataW H×List MemPlace}
    (hf:DataW.trod enc prog W 0 (fun _=>true) true e 34 [v]=some x) (I:∀ y∈x.1.weights prog 34,y≤reachBytes) :
    ∃ l,Zx W W.heap.size v l∧(∀ v∈l,v.ok)∧l.length<2305843009213693952:=by
  rcases Deep.open_slice underlying34 hf with ⟨b,_⟩ | ⟨a,len,d,m,n,D,Pl,b,_,hl,hm,G,hx,C⟩
  · obtain rfl:v=Bc:=by simpa using b
    exact ⟨[],.inl ⟨rfl,rfl⟩,by simp,by simp⟩
  · obtain rfl:v=.slice (some a) len d:=by simpa using b
    have E:m=d:=by simpa using G
    subst E;have z:prog.cellsOf 304=2:=by kernel_rfl
    have j:prog.bytesOf 304=16:=by kernel_rfl
    have hlen:len<2305843009213693952:=by
      have:=I ((len+(m-len))*16) (by rw [hx];simp [DataW.weights,underlying34,j])
      simp only [reachBytes] at this;omega
    haveI:Inhabited Vl:=⟨⟨0,0⟩⟩
    obtain ⟨l,h1,h2,h3⟩:=QgG (W:=W) (a:=a) (len:=len) (m:=m) (k:=2) QmG Vl.ok (by omega) (fun _=>rfl) hl (fun i hi=>by
      obtain ⟨q,g1,g2⟩:=C i (by omega)
      rw [z] at g1;obtain ⟨_,A,_⟩:=CV g1
      match q,A with
      | [c0,c1],_ =>
        obtain ⟨y0,y1,n',hd,_,t0,t1⟩:=trod_struct2 underlying304 g2;have e1:prog.cellsOf 47=1:=by kernel_rfl
        have t0':DataW.trod enc prog W 0 (fun _=>true) true n' 47 [c0]=some y0:=by rw [show [c0]=(([c0,c1].drop 0).take (prog.cellsOf 47)) by rw [e1];rfl];exact t0
        have t1':DataW.trod enc prog W 0 (fun _=>true) true n' 47 [c1]=some y1:=by rw [show [c1]=(([c0,c1].drop 1).take (prog.cellsOf 47)) by rw [e1];rfl];exact t1
        obtain ⟨z0,k0,_,f0⟩:=BA underlying47 t0';obtain ⟨z1,k1,_,f1⟩:=BA underlying47 t1';obtain ⟨n0,rfl,b0⟩:=QfJ f0;obtain ⟨n1,rfl,b1⟩:=QfJ f1;obtain rfl:c0=.int .u64 n0:=by simpa using k0
        obtain rfl:c1=.int .u64 n1:=by simpa using k1
        exact ⟨⟨n0,n1⟩,g1,b0,b1⟩)
    exact ⟨l,h1,h2,by omega⟩
theorem Qoi {H:Type} {enc:TypeId×Value→H} {W:World} {e:Nat} {v:Value} {x:DataW H×List MemPlace}
    (hf:DataW.trod enc prog W 0 (fun _=>true) true e 35 [v]=some x) (L:∀ y∈x.1.weights prog 35,y≤reachBytes) :
    ∃ l,Zy W W.heap.size v l∧(∀ v∈l,v.ok)∧l.length<2305843009213693952:=by
  rcases Deep.open_slice underlying35 hf with ⟨b,_⟩ | ⟨a,len,d,m,n,D,Pl,b,_,hl,hm,I,hx,E⟩
  · obtain rfl:v=Bc:=by simpa using b
    exact ⟨[],.inl ⟨rfl,rfl⟩,by simp,by simp⟩
  · obtain rfl:v=.slice (some a) len d:=by simpa using b
    have G:m=d:=by simpa using I
    subst G;have A:prog.cellsOf 272=3:=by kernel_rfl
    have j:prog.bytesOf 272=24:=by kernel_rfl
    have hlen:len<2305843009213693952:=by
      have:=L ((len+(m-len))*24) (by rw [hx];simp [DataW.weights,underlying35,j])
      simp only [reachBytes] at this;omega
    haveI:Inhabited Vt:=⟨⟨false,0,0⟩⟩
    obtain ⟨l,h1,h2,h3⟩:=QgG (W:=W) (a:=a) (len:=len) (m:=m) (k:=3) Qo3 Vt.ok (by omega) (fun _=>rfl) hl (fun i hi=>by
      obtain ⟨z,g1,g2⟩:=E i (by omega)
      rw [A] at g1;obtain ⟨_,C,_⟩:=CV g1
      match z,C with
      | [c0,c1,c2],_ =>
        obtain ⟨x0,x1,q,_,_,s0,s1⟩:=trod_struct2 underlying272 g2;have eb:prog.cellsOf 4=1:=by kernel_rfl
        have es:prog.cellsOf 270=2:=by kernel_rfl
        have s0':DataW.trod enc prog W 0 (fun _=>true) true q 4 [c0]=some x0:=by rw [show [c0]=(([c0,c1,c2].drop 0).take (prog.cellsOf 4)) by rw [eb];rfl];exact s0
        have s1':DataW.trod enc prog W 0 (fun _=>true) true q 270 [c1,c2]=some x1:=by rw [show [c1,c2]=(([c0,c1,c2].drop 1).take (prog.cellsOf 270)) by rw [es];rfl];exact s1
        obtain ⟨zb,kb,_⟩:=DT underlying4 s0';obtain rfl:c0=.bool zb:=by simpa using kb
        obtain ⟨y0,y1,n',_,_,t0,t1⟩:=trod_struct2 underlying270 s1';have e1:prog.cellsOf 47=1:=by kernel_rfl
        have t0':DataW.trod enc prog W 0 (fun _=>true) true n' 47 [c1]=some y0:=by rw [show [c1]=(([c1,c2].drop 0).take (prog.cellsOf 47)) by rw [e1];rfl];exact t0
        have t1':DataW.trod enc prog W 0 (fun _=>true) true n' 47 [c2]=some y1:=by rw [show [c2]=(([c1,c2].drop 1).take (prog.cellsOf 47)) by rw [e1];rfl];exact t1
        obtain ⟨z0,k0,_,f0⟩:=BA underlying47 t0';obtain ⟨z1,k1,_,f1⟩:=BA underlying47 t1';obtain ⟨n0,rfl,b0⟩:=QfJ f0;obtain ⟨n1,rfl,b1⟩:=QfJ f1;obtain rfl:c1=.int .u64 n0:=by simpa using k0
        obtain rfl:c2=.int .u64 n1:=by simpa using k1
        exact ⟨⟨zb,n0,n1⟩,g1,b0,b1⟩)
    exact ⟨l,h1,h2,by omega⟩
theorem Qkx {H:Type} {enc:TypeId×Value→H} {W:World} {d:Nat} {c0 c1 c2 c3 c4 c5:Value} {x:DataW H×List MemPlace}
    (hf:DataW.trod enc prog W 0 (fun _=>true) true d 33 [c0,c1,c2,c3,c4,c5]=some x) (D:∀ y∈x.1.weights prog 33,y≤reachBytes) :
    ∃ h:Hd,c0=.string h.chain∧c1=Bb h.height∧c2=Bb h.time∧Bytes W W.heap.size c3 h.root∧Bytes W W.heap.size c4 h.vals∧Bytes W W.heap.size c5 h.next∧h.fits:=by
  obtain ⟨xs,n',_,hd,_,e,b⟩:=Cb underlying33 hf;have e0:prog.cellsOf 9=1:=by kernel_rfl
  have e1:prog.cellsOf 3=1:=by kernel_rfl
  have e3:prog.cellsOf 29=1:=by kernel_rfl
  match xs,e with
  | [y0,y1,y2,y3,y4,y5],_ =>
    have t0:DataW.trod enc prog W 0 (fun _=>true) true n' 9 [c0]=some y0:=by
      have:=b 0 _ rfl;simpa [e0] using this
    have t1:DataW.trod enc prog W 0 (fun _=>true) true n' 3 [c1]=some y1:=by
      have:=b 1 _ rfl;simpa [e1] using this
    have t2:DataW.trod enc prog W 0 (fun _=>true) true n' 3 [c2]=some y2:=by
      have:=b 2 _ rfl;simpa [e1] using this
    have t3:DataW.trod enc prog W 0 (fun _=>true) true n' 29 [c3]=some y3:=by
      have:=b 3 _ rfl;simpa [e3] using this
    have t4:DataW.trod enc prog W 0 (fun _=>true) true n' 29 [c4]=some y4:=by
      have:=b 4 _ rfl;simpa [e3] using this
    have t5:DataW.trod enc prog W 0 (fun _=>true) true n' 29 [c5]=some y5:=by
      have:=b 5 _ rfl;simpa [e3] using this
    have hw:∀ y,y∈y0.1.weights prog 9∨y∈y3.1.weights prog 29∨y∈y4.1.weights prog 29∨y∈y5.1.weights prog 29→y≤reachBytes:=fun y hy=>D y (by
      rw [hd];simp only [DataW.weights,underlying33];simp [DataW.weightsEach]
      rcases hy with hy | hy | hy | hy
      · exact .inl hy
      · exact .inr (.inr (.inr (.inl hy)))
      · exact .inr (.inr (.inr (.inr (.inl hy))))
      · exact .inr (.inr (.inr (.inr (.inr hy)))))
    obtain ⟨l3,j,z⟩:=Js t3 (fun y hy=>hw y (.inr (.inl hy)))
    obtain ⟨l4,m,A⟩:=Js t4 (fun y hy=>hw y (.inr (.inr (.inl hy))))
    obtain ⟨l5,q,C⟩:=Js t5 (fun y hy=>hw y (.inr (.inr (.inr hy))))
    obtain ⟨s,g0,q0,_⟩:=C8 underlying9 t0;obtain ⟨z1,g1,_⟩:=BA underlying3 t1;obtain ⟨z2,g2,_⟩:=BA underlying3 t2;obtain rfl:c0=.string s:=by simpa using g0
    obtain rfl:c1=Bb z1:=by simpa using g1
    obtain rfl:c2=Bb z2:=by simpa using g2
    have hs:s.size≤140737488351232:=by
      have:=hw s.size (.inl (by rw [q0];simp [DataW.weights]))
      simpa [reachBytes] using this
    exact ⟨⟨s,z1,z2,l3,l4,l5⟩,rfl,rfl,rfl,j,m,q,hs,z,A,C⟩
theorem Qli:prog.cellsOf 33=6:=by kernel_rfl
theorem Qlj:prog.cellsOf 37=8:=by kernel_rfl
theorem Qf9 {H:Type} {enc:TypeId×Value→H} {W:World} {d:Nat} {c0 c1 c2 c3:Value} {x:DataW H×List MemPlace}
    (hf:DataW.trod enc prog W 0 (fun _=>true) true d 31 [c0,c1,c2,c3]=some x) (A:∀ y∈x.1.weights prog 31,y≤reachBytes) :
    ∃ k:Kn,c0=Bb k.height∧c1=Bb k.time∧Bytes W W.heap.size c2 k.root∧Bytes W W.heap.size c3 k.next∧k.fits:=by
  obtain ⟨xs,n',_,hd,_,e,b⟩:=Cb underlying31 hf;have e1:prog.cellsOf 3=1:=by kernel_rfl
  have e3:prog.cellsOf 29=1:=by kernel_rfl
  match xs,e with
  | [y0,y1,y2,y3],_ =>
    have t0:DataW.trod enc prog W 0 (fun _=>true) true n' 3 [c0]=some y0:=by
      have:=b 0 _ rfl;simpa [e1] using this
    have t1:DataW.trod enc prog W 0 (fun _=>true) true n' 3 [c1]=some y1:=by
      have:=b 1 _ rfl;simpa [e1] using this
    have t2:DataW.trod enc prog W 0 (fun _=>true) true n' 29 [c2]=some y2:=by
      have:=b 2 _ rfl;simpa [e3] using this
    have t3:DataW.trod enc prog W 0 (fun _=>true) true n' 29 [c3]=some y3:=by
      have:=b 3 _ rfl;simpa [e3] using this
    have hw:∀ y,y∈y2.1.weights prog 29∨y∈y3.1.weights prog 29→y≤reachBytes:=fun y hy=>A y (by
      rw [hd];simp only [DataW.weights,underlying31];simp [DataW.weightsEach]
      rcases hy with hy | hy
      · exact .inr (.inr (.inl hy))
      · exact .inr (.inr (.inr hy)))
    obtain ⟨l2,j,q⟩:=Js t2 (fun y hy=>hw y (.inl hy))
    obtain ⟨l3,m,z⟩:=Js t3 (fun y hy=>hw y (.inr hy))
    obtain ⟨z0,g0,_⟩:=BA underlying3 t0;obtain ⟨z1,g1,_⟩:=BA underlying3 t1;obtain rfl:c0=Bb z0:=by simpa using g0
    obtain rfl:c1=Bb z1:=by simpa using g1
    exact ⟨⟨z0,z1,l2,l3⟩,rfl,rfl,j,m,q,z⟩
theorem QlO {H:Type} {enc:TypeId×Value→H} {W:World} {e:Nat} {v:Value} {x:DataW H×List MemPlace}
    (hf:DataW.trod enc prog W 0 (fun _=>true) true e 76 [v]=some x) (A:∀ y∈x.1.weights prog 76,y≤reachBytes) :
    ∃ l,Jh W W.heap.size v l∧(∀ k∈l,k.fits)∧l.length<2305843009213693952:=by
  rcases Deep.open_slice underlying76 hf with ⟨b,_⟩ | ⟨a,len,d,m,n,D,Pl,b,_,hl,hm,M,hx,I⟩
  · obtain rfl:v=Bc:=by simpa using b
    exact ⟨[],Jh.nil _ _,by simp,by simp⟩
  · obtain rfl:v=.slice (some a) len d:=by simpa using b
    have L:m=d:=by simpa using M
    subst L;have E:prog.cellsOf 31=4:=by kernel_rfl
    have j:prog.bytesOf 31=64:=by kernel_rfl
    have hlen:len<2305843009213693952:=by
      have:=A ((len+(m-len))*64) (by rw [hx];simp [DataW.weights,underlying76,j])
      simp only [reachBytes] at this;omega
    haveI:Inhabited KnR:=⟨⟨Kn.none,undef,undef⟩⟩
    obtain ⟨l,h1,h2,h3⟩:=QgG (W:=W) (a:=a) (len:=len) (m:=m) (k:=4) JQ (fun q:KnR=>q.ok W W.heap.size∧q.k.fits) (by omega) (fun _=>rfl) hl (fun i hi=>by
      obtain ⟨C,g1,g2⟩:=I i (by omega)
      rw [E] at g1;obtain ⟨_,G,_⟩:=CV g1
      match C,G with
      | [c0,c1,c2,c3],_ =>
        obtain ⟨k,rfl,rfl,b2,b3,z⟩:=Qf9 g2 (fun y hy=>A y (by
          rw [hx];simp only [DataW.weights,underlying76,Bo,Bz]
          exact .inr (.inl (JJ _ _ _ (D i) (BD.2 ⟨i,Cg.2 hi,rfl⟩) y hy))))
        exact ⟨⟨k,c2,c3⟩,g1,⟨b2,b3⟩,z⟩)
    refine ⟨l.map (·.k),⟨l,rfl,h1,fun q hq=>(h2 q hq).1⟩,fun k hk=>?_,by simp;omega⟩
    obtain ⟨q,hq,rfl⟩:=BD.1 hk;exact (h2 q hq).2
theorem Qkd {H:Type} {enc:TypeId×Value→H} {W:World} {d:Nat} {c0 c1 c2 c3:Value} {x:DataW H×List MemPlace}
    (hf:DataW.trod enc prog W 0 (fun _=>true) true d 78 [c0,c1,c2,c3]=some x) (z:∀ y∈x.1.weights prog 78,y≤reachBytes) :
    ∃ c:Cl,c0=.string c.chain∧c1=Bb c.trust∧c2=.bool c.frozen∧Jh W W.heap.size c3 c.known∧c.fits:=by
  obtain ⟨xs,n',_,hd,_,e,b⟩:=Cb underlying78 hf;have e0:prog.cellsOf 9=1:=by kernel_rfl
  have e1:prog.cellsOf 3=1:=by kernel_rfl
  have e2:prog.cellsOf 4=1:=by kernel_rfl
  have e3:prog.cellsOf 76=1:=by kernel_rfl
  match xs,e with
  | [y0,y1,y2,y3],_ =>
    have t0:DataW.trod enc prog W 0 (fun _=>true) true n' 9 [c0]=some y0:=by
      have:=b 0 _ rfl;simpa [e0] using this
    have t1:DataW.trod enc prog W 0 (fun _=>true) true n' 3 [c1]=some y1:=by
      have:=b 1 _ rfl;simpa [e1] using this
    have t2:DataW.trod enc prog W 0 (fun _=>true) true n' 4 [c2]=some y2:=by
      have:=b 2 _ rfl;simpa [e2] using this
    have t3:DataW.trod enc prog W 0 (fun _=>true) true n' 76 [c3]=some y3:=by
      have:=b 3 _ rfl;simpa [e3] using this
    have hw:∀ y,y∈y0.1.weights prog 9∨y∈y3.1.weights prog 76→y≤reachBytes:=fun y hy=>z y (by
      rw [hd];simp only [DataW.weights,underlying78];simp [DataW.weightsEach]
      rcases hy with hy | hy
      · exact .inl hy
      · exact .inr (.inr (.inr hy)))
    obtain ⟨l3,j,m,q⟩:=QlO t3 (fun y hy=>hw y (.inr hy))
    obtain ⟨s,g0,q0,_⟩:=C8 underlying9 t0;obtain ⟨z1,g1,_⟩:=BA underlying3 t1;obtain ⟨z2,g2,_⟩:=DT underlying4 t2;obtain rfl:c0=.string s:=by simpa using g0
    obtain rfl:c1=Bb z1:=by simpa using g1
    obtain rfl:c2=.bool z2:=by simpa using g2
    have hs:s.size≤140737488351232:=by
      have:=hw s.size (.inl (by rw [q0];simp [DataW.weights]))
      simpa [reachBytes] using this
    exact ⟨⟨s,z1,z2,l3⟩,rfl,rfl,rfl,j,hs,q,m⟩
theorem QkR {H:Type} {enc:TypeId×Value→H} {W:World} {d:Nat} {c0 c1 c2 c3 c4 c5 c6 c7:Value} {x:DataW H×List MemPlace}
    (hf:DataW.trod enc prog W 0 (fun _=>true) true d 37 [c0,c1,c2,c3,c4,c5,c6,c7]=some x) (j:∀ y∈x.1.weights prog 37,y≤reachBytes) :
    ∃ s:Sg,SgV W W.heap.size (.agg #[c0,c1,c2,c3,c4,c5,c6,c7]) s∧s.fits:=by
  obtain ⟨xs,n',_,hd,_,e,b⟩:=Cb underlying37 hf;have e1:prog.cellsOf 34=1:=by kernel_rfl
  have e2:prog.cellsOf 35=1:=by kernel_rfl
  match xs,e with
  | [y0,y1,y2],_ =>
    have t0:DataW.trod enc prog W 0 (fun _=>true) true n' 33 [c0,c1,c2,c3,c4,c5]=some y0:=by
      have:=b 0 _ rfl;simpa [Qli] using this
    have t1:DataW.trod enc prog W 0 (fun _=>true) true n' 34 [c6]=some y1:=by
      have:=b 1 _ rfl;simpa [e1] using this
    have t2:DataW.trod enc prog W 0 (fun _=>true) true n' 35 [c7]=some y2:=by
      have:=b 2 _ rfl;simpa [e2] using this
    have hw:∀ y,y∈y0.1.weights prog 33∨y∈y1.1.weights prog 34∨y∈y2.1.weights prog 35→y≤reachBytes:=fun y hy=>j y (by
      rw [hd];simp only [DataW.weights,underlying37];simp [DataW.weightsEach]
      exact hy)
    obtain ⟨g,rfl,rfl,rfl,h3,h4,h5,hg⟩:=Qkx t0 (fun y hy=>hw y (.inl hy))
    obtain ⟨l1,b1,f1,k1⟩:=QjX t1 (fun y hy=>hw y (.inr (.inl hy)))
    obtain ⟨l2,b2,f2,k2⟩:=Qoi t2 (fun y hy=>hw y (.inr (.inr hy)))
    exact ⟨⟨g,l1,l2⟩,⟨c3,c4,c5,c6,c7,rfl,h3,h4,h5,b1,b2⟩,hg,k1,k2,f1,f2⟩
theorem QeW {W:World} {a:Addr} {len m k:Nat} {α:Type} {R:World→Nat→List Value→α→Prop} (d:α) (P:α→Prop) (hk:0<k) (hl:len≤m)
    (each:∀ i,i<len→∃ r x,W.cells? 0 (a.add (i*k)) k=some r∧r.length=k∧R W W.heap.size r x∧P x):∃ l:List α,Qt R k W W.heap.size (.slice (some a) len m) l∧(∀ x∈l,P x)∧l.length=len:=by
  haveI:Inhabited { p:List Value×α // p.1.length=k }:=⟨⟨(List.replicate k undef,d),by simp⟩⟩
  obtain ⟨l,h1,h2,h3⟩:=QgG (W:=W) (a:=a) (len:=len) (m:=m) (k:=k) (fun p:{ p:List Value×α // p.1.length=k }=>p.1.1) (fun p=>R W W.heap.size p.1.1 p.1.2∧P p.1.2) hk (fun p=>p.2) hl (fun i hi=>by
    obtain ⟨r,x,g1,g2,g3⟩:=each i hi
    exact ⟨⟨(r,x),g2⟩,g1,g3⟩)
  refine ⟨l.map (fun p=>p.1.2),⟨_,by simp,h1,fun i r x hr hx=>?_⟩,fun x hx=>?_,by simpa using h3⟩
  · rw [Bt] at hr hx
    cases e:l[i]? with
    | none=>rw [e] at hr;simp at hr
    | some p =>
      rw [e] at hr hx;simp at hr hx;subst hr hx;exact (h2 p (Bn e)).1
  · obtain ⟨p,hp,rfl⟩:=BD.1 hx
    exact (h2 p hp).2
theorem Qpw {H:Type} {enc:TypeId×Value→H} {W:World} {d:Nat} {c0 c1 c2 c3:Value} {x:DataW H×List MemPlace}
    (hf:DataW.trod enc prog W 0 (fun _=>true) true d 82 [c0,c1,c2,c3]=some x) (_hsz:∀ y∈x.1.weights prog 82,y≤reachBytes) :
    ∃ q:Cn,CnR W W.heap.size [c0,c1,c2,c3] q∧True:=by
  obtain ⟨xs,n',_,hd,_,e,b⟩:=Cb underlying82 hf;have ei:prog.cellsOf 3=1:=by kernel_rfl
  match xs,e with
  | [y0,y1,y2,y3],_ =>
    have t0:DataW.trod enc prog W 0 (fun _=>true) true n' 3 [c0]=some y0:=by
      have:=b 0 _ rfl;simpa [ei] using this
    have t1:DataW.trod enc prog W 0 (fun _=>true) true n' 3 [c1]=some y1:=by
      have:=b 1 _ rfl;simpa [ei] using this
    have t2:DataW.trod enc prog W 0 (fun _=>true) true n' 3 [c2]=some y2:=by
      have:=b 2 _ rfl;simpa [ei] using this
    have t3:DataW.trod enc prog W 0 (fun _=>true) true n' 3 [c3]=some y3:=by
      have:=b 3 _ rfl;simpa [ei] using this
    obtain ⟨z0,g0,_⟩:=BA underlying3 t0;obtain rfl:c0=Bb z0:=by simp_all
    obtain ⟨z1,g1,_⟩:=BA underlying3 t1;obtain rfl:c1=Bb z1:=by simp_all
    obtain ⟨z2,g2,_⟩:=BA underlying3 t2;obtain rfl:c2=Bb z2:=by simp_all
    obtain ⟨z3,g3,_⟩:=BA underlying3 t3;obtain rfl:c3=Bb z3:=by simp_all
    exact ⟨⟨z0,z1,z2,z3⟩,rfl,trivial⟩
theorem Qpo {H:Type} {enc:TypeId×Value→H} {W:World} {d:Nat} {c0 c1 c2 c3 c4 c5 c6:Value} {x:DataW H×List MemPlace}
    (hf:DataW.trod enc prog W 0 (fun _=>true) true d 86 [c0,c1,c2,c3,c4,c5,c6]=some x) (_hsz:∀ y∈x.1.weights prog 86,y≤reachBytes) :
    ∃ q:Ch,ChR W W.heap.size [c0,c1,c2,c3,c4,c5,c6] q∧True:=by
  obtain ⟨xs,n',_,hd,_,e,b⟩:=Cb underlying86 hf;have eb:prog.cellsOf 4=1:=by kernel_rfl
  have ei:prog.cellsOf 3=1:=by kernel_rfl
  match xs,e with
  | [y0,y1,y2,y3,y4,y5,y6],_ =>
    have t0:DataW.trod enc prog W 0 (fun _=>true) true n' 3 [c0]=some y0:=by
      have:=b 0 _ rfl;simpa [eb,ei] using this
    have t1:DataW.trod enc prog W 0 (fun _=>true) true n' 4 [c1]=some y1:=by
      have:=b 1 _ rfl;simpa [eb,ei] using this
    have t2:DataW.trod enc prog W 0 (fun _=>true) true n' 3 [c2]=some y2:=by
      have:=b 2 _ rfl;simpa [eb,ei] using this
    have t3:DataW.trod enc prog W 0 (fun _=>true) true n' 3 [c3]=some y3:=by
      have:=b 3 _ rfl;simpa [eb,ei] using this
    have t4:DataW.trod enc prog W 0 (fun _=>true) true n' 3 [c4]=some y4:=by
      have:=b 4 _ rfl;simpa [eb,ei] using this
    have t5:DataW.trod enc prog W 0 (fun _=>true) true n' 3 [c5]=some y5:=by
      have:=b 5 _ rfl;simpa [eb,ei] using this
    have t6:DataW.trod enc prog W 0 (fun _=>true) true n' 3 [c6]=some y6:=by
      have:=b 6 _ rfl;simpa [eb,ei] using this
    obtain ⟨z0,g0,_⟩:=BA underlying3 t0;obtain rfl:c0=Bb z0:=by simp_all
    obtain ⟨z1,g1,_⟩:=DT underlying4 t1;obtain rfl:c1=.bool z1:=by simp_all
    obtain ⟨z2,g2,_⟩:=BA underlying3 t2;obtain rfl:c2=Bb z2:=by simp_all
    obtain ⟨z3,g3,_⟩:=BA underlying3 t3;obtain rfl:c3=Bb z3:=by simp_all
    obtain ⟨z4,g4,_⟩:=BA underlying3 t4;obtain rfl:c4=Bb z4:=by simp_all
    obtain ⟨z5,g5,_⟩:=BA underlying3 t5;obtain rfl:c5=Bb z5:=by simp_all
    obtain ⟨z6,g6,_⟩:=BA underlying3 t6;obtain rfl:c6=Bb z6:=by simp_all
    exact ⟨⟨z0,z1,z2,z3,z4,z5,z6⟩,rfl,trivial⟩
theorem Qp8 {H:Type} {enc:TypeId×Value→H} {W:World} {d:Nat} {c0 c1 c2:Value} {x:DataW H×List MemPlace}
    (hf:DataW.trod enc prog W 0 (fun _=>true) true d 90 [c0,c1,c2]=some x) (z:∀ y∈x.1.weights prog 90,y≤reachBytes) :
    ∃ q:Mk,MkR W W.heap.size [c0,c1,c2] q∧q.fits:=by
  obtain ⟨xs,n',_,hd,_,e,b⟩:=Cb underlying90 hf;have ei:prog.cellsOf 3=1:=by kernel_rfl
  have ey:prog.cellsOf 29=1:=by kernel_rfl
  match xs,e with
  | [y0,y1,y2],_ =>
    have t0:DataW.trod enc prog W 0 (fun _=>true) true n' 3 [c0]=some y0:=by
      have:=b 0 _ rfl;simpa [ei] using this
    have t1:DataW.trod enc prog W 0 (fun _=>true) true n' 3 [c1]=some y1:=by
      have:=b 1 _ rfl;simpa [ei] using this
    have t2:DataW.trod enc prog W 0 (fun _=>true) true n' 29 [c2]=some y2:=by
      have:=b 2 _ rfl;simpa [ey] using this
    have hw:∀ y,y∈y2.1.weights prog 29→y≤reachBytes:=fun y hy=>z y (by
      rw [hd];simp only [DataW.weights];simp [DataW.weightsEach]
      exact (.inr (.inr hy)))
    obtain ⟨z0,g0,_⟩:=BA underlying3 t0;obtain rfl:c0=Bb z0:=by simp_all
    obtain ⟨z1,g1,_⟩:=BA underlying3 t1;obtain rfl:c1=Bb z1:=by simp_all
    obtain ⟨l2,j,m⟩:=Js t2 (fun y hy=>hw y hy)
    exact ⟨⟨z0,z1,l2⟩,⟨c2,rfl,j⟩,m⟩
theorem Qqn {H:Type} {enc:TypeId×Value→H} {W:World} {d:Nat} {c0 c1 c2:Value} {x:DataW H×List MemPlace}
    (hf:DataW.trod enc prog W 0 (fun _=>true) true d 70 [c0,c1,c2]=some x) (z:∀ y∈x.1.weights prog 70,y≤reachBytes) :
    ∃ q:Pu,PuR W W.heap.size [c0,c1,c2] q∧q.fits:=by
  obtain ⟨xs,n',_,hd,_,e,b⟩:=Cb underlying70 hf;have es:prog.cellsOf 9=1:=by kernel_rfl
  have eu:prog.cellsOf 47=1:=by kernel_rfl
  match xs,e with
  | [y0,y1,y2],_ =>
    have t0:DataW.trod enc prog W 0 (fun _=>true) true n' 9 [c0]=some y0:=by
      have:=b 0 _ rfl;simpa [es,eu] using this
    have t1:DataW.trod enc prog W 0 (fun _=>true) true n' 9 [c1]=some y1:=by
      have:=b 1 _ rfl;simpa [es,eu] using this
    have t2:DataW.trod enc prog W 0 (fun _=>true) true n' 47 [c2]=some y2:=by
      have:=b 2 _ rfl;simpa [es,eu] using this
    have hw:∀ y,y∈y0.1.weights prog 9∨y∈y1.1.weights prog 9→y≤reachBytes:=fun y hy=>z y (by
      rw [hd];simp only [DataW.weights,underlying70];simp [DataW.weightsEach]
      rcases hy with hy | hy
      · simp_all
      · exact (.inr (.inl hy)))
    obtain ⟨s0,g0,q0,_⟩:=C8 underlying9 t0;obtain rfl:c0=.string s0:=by simp_all
    have j:s0.size≤140737488351232:=by
      have:=hw s0.size ((fun hy=>(.inl hy)) (by rw [q0];simp [DataW.weights]))
      simpa [reachBytes] using this
    obtain ⟨s1,g1,q1,_⟩:=C8 underlying9 t1;obtain rfl:c1=.string s1:=by simp_all
    have m:s1.size≤140737488351232:=by
      have:=hw s1.size ((fun hy=>(.inr hy)) (by rw [q1];simp [DataW.weights]))
      simpa [reachBytes] using this
    obtain ⟨z2,g2,_,f2⟩:=BA underlying47 t2;obtain ⟨n2,rfl,b2⟩:=QfJ f2;obtain rfl:c2=.int .u64 n2:=by simp_all
    exact ⟨⟨s0,s1,n2⟩,rfl,j,m,b2⟩
theorem Qm9 {H:Type} {enc:TypeId×Value→H} {W:World} {e:Nat} {v:Value} {x:DataW H×List MemPlace}
    (hf:DataW.trod enc prog W 0 (fun _=>true) true e 23 [v]=some x) (j:∀ y∈x.1.weights prog 23,y≤reachBytes) :
    ∃ l:List Cn,Qt CnR 4 W W.heap.size v l∧(∀ q∈l,True)∧l.length<2305843009213693952:=by
  rcases Deep.open_slice underlying23 hf with ⟨b,_⟩ | ⟨a,len,d,m,n,D,Pl,b,_,hl,hm,hmm,hx,G⟩
  · obtain rfl:v=Bc:=by simpa using b
    exact ⟨[],Qt.nil _ _ _ _,fun _ h=>(by cases h),by simp⟩
  · obtain rfl:v=.slice (some a) len d:=by simpa using b
    have I:m=d:=by assumption
    subst I;have C:prog.cellsOf 82=4:=by kernel_rfl
    have A:prog.bytesOf 82=32:=by kernel_rfl
    have hlen:len<2305843009213693952:=by
      have:=j ((len+(m-len))*32) (by rw [hx];simp [DataW.weights,underlying23,A])
      simp only [reachBytes] at this;omega
    obtain ⟨l,h1,h2,h3⟩:=QeW (W:=W) (a:=a) (len:=len) (m:=m) (k:=4) (R:=CnR) ⟨0,0,0,0⟩ (fun q=>True) (by omega) hl (fun i hi=>by
      obtain ⟨z,g1,g2⟩:=G i (by omega)
      rw [C] at g1;obtain ⟨_,E,_⟩:=CV g1
      match z,E with
      | [c0,c1,c2,c3],_ =>
        obtain ⟨q,hq,_⟩:=Qpw g2 (fun y hy=>j y (by
          rw [hx];simp only [DataW.weights,underlying23,Bo,Bz]
          exact .inr (.inl (JJ _ _ _ (D i) (BD.2 ⟨i,Cg.2 hi,rfl⟩) y hy))))
        exact ⟨_,q,g1,rfl,hq,trivial⟩)
    exact ⟨l,h1,h2,by omega⟩
theorem Qm4 {H:Type} {enc:TypeId×Value→H} {W:World} {e:Nat} {v:Value} {x:DataW H×List MemPlace}
    (hf:DataW.trod enc prog W 0 (fun _=>true) true e 24 [v]=some x) (j:∀ y∈x.1.weights prog 24,y≤reachBytes) :
    ∃ l:List Ch,Qt ChR 7 W W.heap.size v l∧(∀ q∈l,True)∧l.length<2305843009213693952:=by
  rcases Deep.open_slice underlying24 hf with ⟨b,_⟩ | ⟨a,len,d,m,n,D,Pl,b,_,hl,hm,hmm,hx,G⟩
  · obtain rfl:v=Bc:=by simpa using b
    exact ⟨[],Qt.nil _ _ _ _,fun _ h=>(by cases h),by simp⟩
  · obtain rfl:v=.slice (some a) len d:=by simpa using b
    have I:m=d:=by assumption
    subst I;have C:prog.cellsOf 86=7:=by kernel_rfl
    have A:prog.bytesOf 86=56:=by kernel_rfl
    have hlen:len<2305843009213693952:=by
      have:=j ((len+(m-len))*56) (by rw [hx];simp [DataW.weights,underlying24,A])
      simp only [reachBytes] at this;omega
    obtain ⟨l,h1,h2,h3⟩:=QeW (W:=W) (a:=a) (len:=len) (m:=m) (k:=7) (R:=ChR) ⟨0,false,0,0,0,0,0⟩ (fun q=>True) (by omega) hl (fun i hi=>by
      obtain ⟨z,g1,g2⟩:=G i (by omega)
      rw [C] at g1;obtain ⟨_,E,_⟩:=CV g1
      match z,E with
      | [c0,c1,c2,c3,c4,c5,c6],_ =>
        obtain ⟨q,hq,_⟩:=Qpo g2 (fun y hy=>j y (by
          rw [hx];simp only [DataW.weights,underlying24,Bo,Bz]
          exact .inr (.inl (JJ _ _ _ (D i) (BD.2 ⟨i,Cg.2 hi,rfl⟩) y hy))))
        exact ⟨_,q,g1,rfl,hq,trivial⟩)
    exact ⟨l,h1,h2,by omega⟩
theorem Qej {H:Type} {enc:TypeId×Value→H} {W:World} {e:Nat} {v:Value} {x:DataW H×List MemPlace}
    (hf:DataW.trod enc prog W 0 (fun _=>true) true e 25 [v]=some x) (j:∀ y∈x.1.weights prog 25,y≤reachBytes) :
    ∃ l:List Mk,Qt MkR 3 W W.heap.size v l∧(∀ q∈l,q.fits)∧l.length<2305843009213693952:=by
  rcases Deep.open_slice underlying25 hf with ⟨b,_⟩ | ⟨a,len,d,m,n,D,Pl,b,_,hl,hm,hmm,hx,G⟩
  · obtain rfl:v=Bc:=by simpa using b
    exact ⟨[],Qt.nil _ _ _ _,fun _ h=>(by cases h),by simp⟩
  · obtain rfl:v=.slice (some a) len d:=by simpa using b
    have I:m=d:=by assumption
    subst I;have C:prog.cellsOf 90=3:=by kernel_rfl
    have A:prog.bytesOf 90=40:=by kernel_rfl
    have hlen:len<2305843009213693952:=by
      have:=j ((len+(m-len))*40) (by rw [hx];simp [DataW.weights,underlying25,A])
      simp only [reachBytes] at this;omega
    obtain ⟨l,h1,h2,h3⟩:=QeW (W:=W) (a:=a) (len:=len) (m:=m) (k:=3) (R:=MkR) ⟨0,0,[]⟩ (fun q=>q.fits) (by omega) hl (fun i hi=>by
      obtain ⟨z,g1,g2⟩:=G i (by omega)
      rw [C] at g1;obtain ⟨_,E,_⟩:=CV g1
      match z,E with
      | [c0,c1,c2],_ =>
        obtain ⟨q,hq,L⟩:=Qp8 g2 (fun y hy=>j y (by
          rw [hx];simp only [DataW.weights,underlying25,Bo,Bz]
          exact .inr (.inl (JJ _ _ _ (D i) (BD.2 ⟨i,Cg.2 hi,rfl⟩) y hy))))
        exact ⟨_,q,g1,rfl,hq,L⟩)
    exact ⟨l,h1,h2,by omega⟩
theorem Qmc {H:Type} {enc:TypeId×Value→H} {W:World} {e:Nat} {v:Value} {x:DataW H×List MemPlace}
    (hf:DataW.trod enc prog W 0 (fun _=>true) true e 26 [v]=some x) (j:∀ y∈x.1.weights prog 26,y≤reachBytes) :
    ∃ l:List Pu,Qt PuR 3 W W.heap.size v l∧(∀ q∈l,q.fits)∧l.length<2305843009213693952:=by
  rcases Deep.open_slice underlying26 hf with ⟨b,_⟩ | ⟨a,len,d,m,n,D,Pl,b,_,hl,hm,hmm,hx,G⟩
  · obtain rfl:v=Bc:=by simpa using b
    exact ⟨[],Qt.nil _ _ _ _,fun _ h=>(by cases h),by simp⟩
  · obtain rfl:v=.slice (some a) len d:=by simpa using b
    have I:m=d:=by assumption
    subst I;have C:prog.cellsOf 70=3:=by kernel_rfl
    have A:prog.bytesOf 70=40:=by kernel_rfl
    have hlen:len<2305843009213693952:=by
      have:=j ((len+(m-len))*40) (by rw [hx];simp [DataW.weights,underlying26,A])
      simp only [reachBytes] at this;omega
    obtain ⟨l,h1,h2,h3⟩:=QeW (W:=W) (a:=a) (len:=len) (m:=m) (k:=3) (R:=PuR) ⟨⟨#[]⟩,⟨#[]⟩,0⟩ (fun q=>q.fits) (by omega) hl (fun i hi=>by
      obtain ⟨z,g1,g2⟩:=G i (by omega)
      rw [C] at g1;obtain ⟨_,E,_⟩:=CV g1
      match z,E with
      | [c0,c1,c2],_ =>
        obtain ⟨q,hq,L⟩:=Qqn g2 (fun y hy=>j y (by
          rw [hx];simp only [DataW.weights,underlying26,Bo,Bz]
          exact .inr (.inl (JJ _ _ _ (D i) (BD.2 ⟨i,Cg.2 hi,rfl⟩) y hy))))
        exact ⟨_,q,g1,rfl,hq,L⟩)
    exact ⟨l,h1,h2,by omega⟩
theorem Qke {H:Type} {enc:TypeId×Value→H} {W:World} {e:Nat} {v:Value} {x:DataW H×List MemPlace}
    (hf:DataW.trod enc prog W 0 (fun _=>true) true e 22 [v]=some x) (j:∀ y∈x.1.weights prog 22,y≤reachBytes) :
    ∃ l:List Cl,Qt ClR 4 W W.heap.size v l∧(∀ q∈l,q.fits)∧l.length<2305843009213693952:=by
  rcases Deep.open_slice underlying22 hf with ⟨b,_⟩ | ⟨a,len,d,m,n,D,Pl,b,_,hl,hm,hmm,hx,G⟩
  · obtain rfl:v=Bc:=by simpa using b
    exact ⟨[],Qt.nil _ _ _ _,fun _ h=>(by cases h),by simp⟩
  · obtain rfl:v=.slice (some a) len d:=by simpa using b
    have I:m=d:=by assumption
    subst I;have C:prog.cellsOf 78=4:=by kernel_rfl
    have A:prog.bytesOf 78=56:=by kernel_rfl
    have hlen:len<2305843009213693952:=by
      have:=j ((len+(m-len))*56) (by rw [hx];simp [DataW.weights,underlying22,A])
      simp only [reachBytes] at this;omega
    obtain ⟨l,h1,h2,h3⟩:=QeW (W:=W) (a:=a) (len:=len) (m:=m) (k:=4) (R:=ClR) Cl.none (fun q=>q.fits) (by omega) hl (fun i hi=>by
      obtain ⟨z,g1,g2⟩:=G i (by omega)
      rw [C] at g1;obtain ⟨_,E,_⟩:=CV g1
      match z,E with
      | [c0,c1,c2,c3],_ =>
        obtain ⟨q,rfl,rfl,rfl,hq,L⟩:=Qkd g2 (fun y hy=>j y (by
          rw [hx];simp only [DataW.weights,underlying22,Bo,Bz]
          exact .inr (.inl (JJ _ _ _ (D i) (BD.2 ⟨i,Cg.2 hi,rfl⟩) y hy))))
        exact ⟨_,q,g1,rfl,⟨c3,rfl,hq⟩,L⟩)
    exact ⟨l,h1,h2,by omega⟩
theorem Qm2:prog.cellsOf 28=10:=by kernel_rfl
theorem Qn8 {H:Type} {enc:TypeId×Value→H} {W:World} {base:Nat} {v:Value} {d:DataW H} {p:List MemPlace}
    (A:Value.okWide prog W .any base 28 v) (h:DataW.Trod enc prog W 0 (fun _=>true) true 28 v d p) (j:∀ y∈d.weights prog 28,y≤reachBytes) :
    ∃ g:St,StV W W.heap.size v g∧g.fits:=by
  obtain ⟨cs,rfl,q⟩:=okWide_struct underlying28 A;rw [Qm2] at q;obtain ⟨l⟩:=cs
  match l,q with
  | [c0,c1,c2,c3,c4,c5,c6,c7,c8,c9],_ =>
    obtain ⟨m,hf⟩:=h;have hf':DataW.trod enc prog W 0 (fun _=>true) true m 28 [c0,c1,c2,c3,c4,c5,c6,c7,c8,c9]=some (d,p):=hf
    obtain ⟨xs,n',_,hd,_,z,b⟩:=Cb underlying28 hf';have e1:prog.cellsOf 9=1:=by kernel_rfl
    have e2:prog.cellsOf 3=1:=by kernel_rfl
    have e3:prog.cellsOf 22=1:=by kernel_rfl
    have e4:prog.cellsOf 23=1:=by kernel_rfl
    have e5:prog.cellsOf 24=1:=by kernel_rfl
    have e6:prog.cellsOf 25=1:=by kernel_rfl
    have e7:prog.cellsOf 26=1:=by kernel_rfl
    match xs,z with
    | [y0,y1,y2,y3,y4,y5,y6,y7,y8,y9],_ =>
      have t0:DataW.trod enc prog W 0 (fun _=>true) true n' 9 [c0]=some y0:=by
        have:=b 0 _ rfl;simpa [e1,e2,e3,e4,e5,e6,e7] using this
      have t1:DataW.trod enc prog W 0 (fun _=>true) true n' 3 [c1]=some y1:=by
        have:=b 1 _ rfl;simpa [e1,e2,e3,e4,e5,e6,e7] using this
      have t2:DataW.trod enc prog W 0 (fun _=>true) true n' 3 [c2]=some y2:=by
        have:=b 2 _ rfl;simpa [e1,e2,e3,e4,e5,e6,e7] using this
      have t3:DataW.trod enc prog W 0 (fun _=>true) true n' 22 [c3]=some y3:=by
        have:=b 3 _ rfl;simpa [e1,e2,e3,e4,e5,e6,e7] using this
      have t4:DataW.trod enc prog W 0 (fun _=>true) true n' 23 [c4]=some y4:=by
        have:=b 4 _ rfl;simpa [e1,e2,e3,e4,e5,e6,e7] using this
      have t5:DataW.trod enc prog W 0 (fun _=>true) true n' 24 [c5]=some y5:=by
        have:=b 5 _ rfl;simpa [e1,e2,e3,e4,e5,e6,e7] using this
      have t6:DataW.trod enc prog W 0 (fun _=>true) true n' 25 [c6]=some y6:=by
        have:=b 6 _ rfl;simpa [e1,e2,e3,e4,e5,e6,e7] using this
      have t7:DataW.trod enc prog W 0 (fun _=>true) true n' 25 [c7]=some y7:=by
        have:=b 7 _ rfl;simpa [e1,e2,e3,e4,e5,e6,e7] using this
      have t8:DataW.trod enc prog W 0 (fun _=>true) true n' 25 [c8]=some y8:=by
        have:=b 8 _ rfl;simpa [e1,e2,e3,e4,e5,e6,e7] using this
      have t9:DataW.trod enc prog W 0 (fun _=>true) true n' 26 [c9]=some y9:=by
        have:=b 9 _ rfl;simpa [e1,e2,e3,e4,e5,e6,e7] using this
      have e:d=.agg [y0.1,y1.1,y2.1,y3.1,y4.1,y5.1,y6.1,y7.1,y8.1,y9.1]:=Bl Prod.fst hd
      have w0:∀ y∈y0.1.weights prog 9,y≤reachBytes:=fun y hy=>j y (by
        rw [e];simp only [DataW.weights,underlying28];simp [DataW.weightsEach]
        exact (.inl hy))
      have w3:∀ y∈y3.1.weights prog 22,y≤reachBytes:=fun y hy=>j y (by
        rw [e];simp only [DataW.weights,underlying28];simp [DataW.weightsEach]
        exact (.inr (.inr (.inr (.inl hy)))))
      have w4:∀ y∈y4.1.weights prog 23,y≤reachBytes:=fun y hy=>j y (by
        rw [e];simp only [DataW.weights,underlying28];simp [DataW.weightsEach]
        exact (.inr (.inr (.inr (.inr (.inl hy))))))
      have w5:∀ y∈y5.1.weights prog 24,y≤reachBytes:=fun y hy=>j y (by
        rw [e];simp only [DataW.weights,underlying28];simp [DataW.weightsEach]
        exact (.inr (.inr (.inr (.inr (.inr (.inl hy)))))))
      have w6:∀ y∈y6.1.weights prog 25,y≤reachBytes:=fun y hy=>j y (by
        rw [e];simp only [DataW.weights,underlying28];simp [DataW.weightsEach]
        exact (.inr (.inr (.inr (.inr (.inr (.inr (.inl hy))))))))
      have w7:∀ y∈y7.1.weights prog 25,y≤reachBytes:=fun y hy=>j y (by
        rw [e];simp only [DataW.weights,underlying28];simp [DataW.weightsEach]
        exact (.inr (.inr (.inr (.inr (.inr (.inr (.inr (.inl hy)))))))))
      have w8:∀ y∈y8.1.weights prog 25,y≤reachBytes:=fun y hy=>j y (by
        rw [e];simp only [DataW.weights,underlying28];simp [DataW.weightsEach]
        exact (.inr (.inr (.inr (.inr (.inr (.inr (.inr (.inr (.inl hy))))))))))
      have w9:∀ y∈y9.1.weights prog 26,y≤reachBytes:=fun y hy=>j y (by
        rw [e];simp only [DataW.weights,underlying28];simp [DataW.weightsEach]
        exact (.inr (.inr (.inr (.inr (.inr (.inr (.inr (.inr (.inr hy))))))))))
      obtain ⟨s,g0,q0,_⟩:=C8 underlying9 t0;obtain ⟨z1,g1,_⟩:=BA underlying3 t1;obtain ⟨z2,g2,_⟩:=BA underlying3 t2;obtain rfl:c0=.string s:=by simpa using g0
      obtain rfl:c1=Bb z1:=by simpa using g1
      obtain rfl:c2=Bb z2:=by simpa using g2
      have hs:s.size≤140737488351232:=by
        have:=w0 s.size (by rw [q0];simp [DataW.weights])
        simpa [reachBytes] using this
      obtain ⟨l3,m3,f3,n3⟩:=Qke t3 w3;obtain ⟨l4,m4,_,n4⟩:=Qm9 t4 w4;obtain ⟨l5,m5,_,n5⟩:=Qm4 t5 w5;obtain ⟨l6,m6,f6,n6⟩:=Qej t6 w6;obtain ⟨l7,m7,f7,n7⟩:=Qej t7 w7;obtain ⟨l8,m8,f8,n8⟩:=Qej t8 w8;obtain ⟨l9,m9,f9,n9⟩:=Qmc t9 w9;exact ⟨⟨s,z1,z2,l3,l4,l5,l6,l7,l8,l9⟩,⟨c3,c4,c5,c6,c7,c8,c9,rfl,m3,m4,m5,m6,m7,m8,m9⟩,hs,⟨n3,f3⟩,n4,n5,⟨n6,f6⟩,⟨n7,f7⟩,⟨n8,f8⟩,n9,f9⟩
theorem Qpc (b d i:Nat):(⟨b,d,none⟩:Addr).add i=⟨b,d+i,none⟩:=by unfold Addr.add;split <;> simp_all
theorem J6 {H:Type} {enc:TypeId×Value→H} {W:World} {e:Nat} {v:Value} {x:DataW H×List MemPlace}
    (hf:DataW.trod enc prog W 0 (fun _=>true) true e 29 [v]=some x) (j:∀ y∈x.1.weights prog 29,y≤reachBytes) :
    ∃ l,Bytes W W.heap.size v l∧l.length≤140737488351232:=by
  rcases open_ints underlying29 underlying5 (by kernel_rfl) hf with ⟨b,_⟩ | ⟨a,len,d,zs,b,_⟩
  · obtain rfl:v=Bc:=by simpa using b
    exact ⟨[],.inl ⟨rfl,rfl⟩,by simp⟩
  · obtain rfl:v=.slice (some a) len d:=by simpa using b
    refine QcO (a0:=some a) (len0:=len) (cap0:=d) (x:=x) hf (fun elems spare he=>?_)
    refine j _ ?_;rw [he];simp [DataW.weights,underlying29]
theorem QfR {H:Type} (P:Program) (e:TypeId) (l:List (DataW H)) (d:DataW H) (hd:d∈l) (y:Nat) (hy:y∈d.weights P e):y∈DataW.weightsAll P e l:=by
  induction l with
  | nil=>simp at hd
  | cons a r ih =>
    simp only [DataW.weightsAll,Bz]
    rcases Bo.1 hd with rfl | h
    · exact .inl hy
    · exact .inr (ih h)
theorem Qpb (a:Addr):a.add 0=a:=by unfold Addr.add;split <;> simp_all
theorem QfF {H:Type} {enc:TypeId×Value→H} {W:World} {A:Nat} {v:Value} {x:DataW H×List MemPlace}
    (hf:DataW.trod enc prog W 0 (fun _=>true) true A 40 [v]=some x) (G:∀ y∈x.1.weights prog 40,y≤reachBytes) :
    ∃ l,Jx W W.heap.size v l∧(∀ d∈l,d.length≤140737488351232)∧l.length<2305843009213693952:=by
  rcases Deep.open_slice underlying40 hf with ⟨e,_⟩ | ⟨a,len,z,m,n,D,Pl,e,_,hl,hm,aC,hx,Y⟩
  · obtain rfl:v=Bc:=by simpa using e
    exact ⟨[],.inl ⟨rfl,rfl⟩,by simp,by simp⟩
  · obtain rfl:v=.slice (some a) len z:=by simpa using e
    have aB:m=z:=by simpa using aC
    subst aB;have O:prog.cellsOf 29=1:=by kernel_rfl
    have C:prog.bytesOf 29=24:=by kernel_rfl
    have E:len<2305843009213693952:=by
      have:=G ((len+(m-len))*24) (by rw [hx];simp [DataW.weights,underlying40,C])
      simp only [reachBytes] at this;omega
    have each:∀ i,i<len→∃ p:Value×Bg,W.cell? (a.add (i*1))=some p.1∧Bytes W W.heap.size p.1 p.2∧p.2.length≤140737488351232:=fun i hi=>by
      obtain ⟨L,h1,h2⟩:=Y i (by omega)
      rw [O] at h1;obtain ⟨_,T,S⟩:=CV h1
      match L,T with
      | [c0],_ =>
        have g0:=S 0 (by omega)
        rw [Qpb] at g0
        obtain ⟨l0,M,aA⟩:=J6 h2 (fun y hy=>G y (by
          rw [hx];simp only [DataW.weights,underlying40,Bo,Bz]
          exact .inr (.inl (QfR _ _ _ (D i) (BD.2 ⟨i,Cg.2 hi,rfl⟩) y hy))))
        exact ⟨(c0,l0),g0,M,aA⟩
    haveI:Inhabited (Value×Bg):=⟨(undef,[])⟩
    obtain ⟨f,j⟩:=Deep.choose_lt each;refine ⟨(List.range len).map fun i=>(f i).2,?_,?_,by simpa using E⟩
    · by_cases h0:len=0
      · subst h0
        exact .inr (.inl ⟨a,m,rfl,rfl⟩)
      · obtain ⟨b,aD,I⟩:=a
        have hc:=(j 0 (by omega)).1
        have q:I=none:=by simpa [Addr.add] using World.cell?_spot hc
        subst q;refine .inr (.inr ⟨b,aD,m,by simp,by simpa using hl,fun i hi=>?_⟩)
        have hi':i<len:=by simpa using hi
        obtain ⟨h1,h2,_⟩:=j i hi';rw [Qpc,Dm] at h1;refine ⟨CF h1,(f i).1,h1,?_⟩;rw [show ((List.range len).map fun i=>(f i).2).getD i []=(f i).2 by simp [hi']]
        exact h2
    · intro p hp
      obtain ⟨i,hi,rfl⟩:=BD.1 hp;exact (j i (Cg.1 hi)).2.2
theorem Qc7 {H:Type} {enc:TypeId×Value→H} {W:World} {d:Nat} {c0 c1 c2 c3 c4:Value} {x:DataW H×List MemPlace}
    (hf:DataW.trod enc prog W 0 (fun _=>true) true d 42 [c0,c1,c2,c3,c4]=some x) (E:∀ y∈x.1.weights prog 42,y≤reachBytes) :
    ∃ p:Prf,c0=Bb p.index∧c1=Bb p.size∧Bytes W W.heap.size c2 p.key∧Bytes W W.heap.size c3 p.val∧Jx W W.heap.size c4 p.path∧p.fits:=by
  obtain ⟨xs,n',_,hd,_,e,b⟩:=Cb underlying42 hf;have e1:prog.cellsOf 3=1:=by kernel_rfl
  have e3:prog.cellsOf 29=1:=by kernel_rfl
  have e4:prog.cellsOf 40=1:=by kernel_rfl
  match xs,e with
  | [y0,y1,y2,y3,y4],_ =>
    have t0:DataW.trod enc prog W 0 (fun _=>true) true n' 3 [c0]=some y0:=by
      have:=b 0 _ rfl;simpa [e1] using this
    have t1:DataW.trod enc prog W 0 (fun _=>true) true n' 3 [c1]=some y1:=by
      have:=b 1 _ rfl;simpa [e1] using this
    have t2:DataW.trod enc prog W 0 (fun _=>true) true n' 29 [c2]=some y2:=by
      have:=b 2 _ rfl;simpa [e3] using this
    have t3:DataW.trod enc prog W 0 (fun _=>true) true n' 29 [c3]=some y3:=by
      have:=b 3 _ rfl;simpa [e3] using this
    have t4:DataW.trod enc prog W 0 (fun _=>true) true n' 40 [c4]=some y4:=by
      have:=b 4 _ rfl;simpa [e4] using this
    have hw:∀ y,y∈y2.1.weights prog 29∨y∈y3.1.weights prog 29∨y∈y4.1.weights prog 40→y≤reachBytes:=fun y hy=>E y (by
      rw [hd];simp only [DataW.weights,underlying42];simp [DataW.weightsEach]
      rcases hy with hy | hy | hy
      · exact .inr (.inr (.inl hy))
      · exact .inr (.inr (.inr (.inl hy)))
      · exact .inr (.inr (.inr (.inr hy))))
    obtain ⟨l2,j,A⟩:=J6 t2 (fun y hy=>hw y (.inl hy))
    obtain ⟨l3,m,C⟩:=J6 t3 (fun y hy=>hw y (.inr (.inl hy)))
    obtain ⟨l4,q,z,D⟩:=QfF t4 (fun y hy=>hw y (.inr (.inr hy)))
    obtain ⟨z0,g0,_⟩:=BA underlying3 t0;obtain ⟨z1,g1,_⟩:=BA underlying3 t1;obtain rfl:c0=Bb z0:=by simpa using g0
    obtain rfl:c1=Bb z1:=by simpa using g1
    exact ⟨⟨z0,z1,l2,l3,l4⟩,rfl,rfl,j,m,q,A,C,D,z⟩
theorem Qb2:prog.cellsOf 42=5:=by kernel_rfl
theorem Qrb:prog.cellsOf 44=12:=by kernel_rfl
theorem QpE {H:Type} {enc:TypeId×Value→H} {W:World} {d:Nat} {b0 b1 c0 c1 c2 c3 c4 d0 d1 d2 d3 d4:Value} {x:DataW H×List MemPlace}
    (hf:DataW.trod enc prog W 0 (fun _=>true) true d 44 [b0,b1,c0,c1,c2,c3,c4,d0,d1,d2,d3,d4]=some x) (j:∀ y∈x.1.weights prog 44,y≤reachBytes) :
    ∃ g:Gp,GpV W W.heap.size (.agg #[b0,b1,c0,c1,c2,c3,c4,d0,d1,d2,d3,d4]) g∧g.fits:=by
  obtain ⟨xs,n',_,hd,_,e,b⟩:=Cb underlying44 hf;have e1:prog.cellsOf 4=1:=by kernel_rfl
  match xs,e with
  | [y0,y1,y2,y3],_ =>
    have t0:DataW.trod enc prog W 0 (fun _=>true) true n' 4 [b0]=some y0:=by
      have:=b 0 _ rfl;simpa [e1] using this
    have t1:DataW.trod enc prog W 0 (fun _=>true) true n' 4 [b1]=some y1:=by
      have:=b 1 _ rfl;simpa [e1] using this
    have t2:DataW.trod enc prog W 0 (fun _=>true) true n' 42 [c0,c1,c2,c3,c4]=some y2:=by
      have:=b 2 _ rfl;simpa [Qb2] using this
    have t3:DataW.trod enc prog W 0 (fun _=>true) true n' 42 [d0,d1,d2,d3,d4]=some y3:=by
      have:=b 3 _ rfl;simpa [Qb2] using this
    have hw:∀ y,y∈y2.1.weights prog 42∨y∈y3.1.weights prog 42→y≤reachBytes:=fun y hy=>j y (by
      rw [hd];simp only [DataW.weights,underlying44];simp [DataW.weightsEach]
      rcases hy with hy | hy
      · exact .inr (.inr (.inl hy))
      · exact .inr (.inr (.inr hy)))
    obtain ⟨p,rfl,rfl,h2,h3,h4,h5⟩:=Qc7 t2 (fun y hy=>hw y (.inl hy))
    obtain ⟨q,rfl,rfl,k2,k3,k4,k5⟩:=Qc7 t3 (fun y hy=>hw y (.inr hy))
    obtain ⟨z0,g0,_⟩:=DT underlying4 t0;obtain ⟨z1,g1,_⟩:=DT underlying4 t1;obtain rfl:b0=.bool z0:=by simpa using g0
    obtain rfl:b1=.bool z1:=by simpa using g1
    exact ⟨⟨z0,z1,p,q⟩,⟨c2,c3,c4,d2,d3,d4,rfl,h2,h3,h4,k2,k3,k4⟩,h5,k5⟩
theorem Qms {H:Type} {enc:TypeId×Value→H} {W:World} {d:Nat} {a0 c0 c1 c2 c3 c4 b0 b1 d0 d1 d2 d3 d4 e0 e1 e2 e3 e4:Value} {x:DataW H×List MemPlace}
    (hf:DataW.trod enc prog W 0 (fun _=>true) true d 46 [a0,c0,c1,c2,c3,c4,b0,b1,d0,d1,d2,d3,d4,e0,e1,e2,e3,e4]=some x) (q:∀ y∈x.1.weights prog 46,y≤reachBytes) :
    ∃ g:Sh,ShV W W.heap.size (.agg #[a0,c0,c1,c2,c3,c4,b0,b1,d0,d1,d2,d3,d4,e0,e1,e2,e3,e4]) g∧g.fits:=by
  obtain ⟨xs,n',_,hd,_,m,b⟩:=Cb underlying46 hf;have i1:prog.cellsOf 3=1:=by kernel_rfl
  match xs,m with
  | [y0,y1,y2],_ =>
    have t0:DataW.trod enc prog W 0 (fun _=>true) true n' 3 [a0]=some y0:=by
      have:=b 0 _ rfl;simpa [i1] using this
    have t1:DataW.trod enc prog W 0 (fun _=>true) true n' 42 [c0,c1,c2,c3,c4]=some y1:=by
      have:=b 1 _ rfl;simpa [i1,Qb2] using this
    have t2:DataW.trod enc prog W 0 (fun _=>true) true n' 44 [b0,b1,d0,d1,d2,d3,d4,e0,e1,e2,e3,e4]=some y2:=by
      have:=b 2 _ rfl;simpa [i1,Qb2,Qrb] using this
    have hw:∀ y,y∈y1.1.weights prog 42∨y∈y2.1.weights prog 44→y≤reachBytes:=fun y hy=>q y (by
      rw [hd];simp only [DataW.weights,underlying46];simp [DataW.weightsEach]
      rcases hy with hy | hy
      · exact .inr (.inl hy)
      · exact .inr (.inr hy))
    obtain ⟨g1,rfl,rfl,h2,h3,h4,h5⟩:=Qc7 t1 (fun y hy=>hw y (.inl hy))
    obtain ⟨g2,e,k5⟩:=QpE t2 (fun y hy=>hw y (.inr hy))
    obtain ⟨z0,q0,_⟩:=BA underlying3 t0;obtain rfl:a0=Bb z0:=by simpa using q0
    have j:=e;obtain ⟨k1,v1,p1,k2,v2,p2,eg,-⟩:=e;simp at eg;obtain ⟨rfl,rfl,rfl,rfl,rfl,rfl,rfl,rfl,rfl,rfl,rfl,rfl⟩:=eg;exact ⟨⟨z0,g1,g2⟩,⟨_,_,_,_,_,_,_,_,_,rfl,⟨_,_,_,rfl,h2,h3,h4⟩,j⟩,h5,k5⟩
theorem QkJ {H:Type} {enc:TypeId×Value→H} {W:World} {d:Nat} {c0 c1 c2 c3 c4:Value} {x:DataW H×List MemPlace}
    (hf:DataW.trod enc prog W 0 (fun _=>true) true d 51 [c0,c1,c2,c3,c4]=some x) (q:∀ y∈x.1.weights prog 51,y≤reachBytes) :
    ∃ p:Pk,PkV W W.heap.size (.agg #[c0,c1,c2,c3,c4]) p∧p.fits:=by
  obtain ⟨xs,n',_,hd,_,e,b⟩:=Cb underlying51 hf;have e1:prog.cellsOf 3=1:=by kernel_rfl
  have e3:prog.cellsOf 29=1:=by kernel_rfl
  match xs,e with
  | [y0,y1,y2,y3,y4],_ =>
    have t0:DataW.trod enc prog W 0 (fun _=>true) true n' 3 [c0]=some y0:=by
      have:=b 0 _ rfl;simpa [e1] using this
    have t1:DataW.trod enc prog W 0 (fun _=>true) true n' 3 [c1]=some y1:=by
      have:=b 1 _ rfl;simpa [e1] using this
    have t2:DataW.trod enc prog W 0 (fun _=>true) true n' 3 [c2]=some y2:=by
      have:=b 2 _ rfl;simpa [e1] using this
    have t3:DataW.trod enc prog W 0 (fun _=>true) true n' 29 [c3]=some y3:=by
      have:=b 3 _ rfl;simpa [e1,e3] using this
    have t4:DataW.trod enc prog W 0 (fun _=>true) true n' 3 [c4]=some y4:=by
      have:=b 4 _ rfl;simpa [e1,e3] using this
    have hw:∀ y,y∈y3.1.weights prog 29→y≤reachBytes:=fun y hy=>q y (by
      rw [hd];simp only [DataW.weights,underlying51];simp [DataW.weightsEach]
      exact .inr (.inr (.inr (.inl hy))))
    obtain ⟨l3,j,m⟩:=J6 t3 hw;obtain ⟨z0,g0,_⟩:=BA underlying3 t0;obtain ⟨z1,g1,_⟩:=BA underlying3 t1;obtain ⟨z2,g2,_⟩:=BA underlying3 t2;obtain ⟨z4,g4,_⟩:=BA underlying3 t4;obtain rfl:c0=Bb z0:=by simpa using g0
    obtain rfl:c1=Bb z1:=by simpa using g1
    obtain rfl:c2=Bb z2:=by simpa using g2
    obtain rfl:c4=Bb z4:=by simpa using g4
    exact ⟨⟨z0,z1,z2,l3,z4⟩,⟨c3,rfl,j⟩,m⟩
theorem Qig {H:Type} {enc:TypeId×Value→H} {W:World} {d:Nat} {c0 c1 c2 c3:Value} {x:DataW H×List MemPlace}
    (hf:DataW.trod enc prog W 0 (fun _=>true) true d 49 [c0,c1,c2,c3]=some x) (A:∀ y∈x.1.weights prog 49,y≤reachBytes) :
    ∃ q:Tr,(.agg #[c0,c1,c2,c3]:Value)=.agg #[.string q.denom,.int .u64 (q.amount:Int),.string q.sender,.string q.reader]∧q.fits:=by
  obtain ⟨xs,n',_,hd,_,e,b⟩:=Cb underlying49 hf;have es:prog.cellsOf 9=1:=by kernel_rfl
  have eu:prog.cellsOf 47=1:=by kernel_rfl
  match xs,e with
  | [y0,y1,y2,y3],_ =>
    have t0:DataW.trod enc prog W 0 (fun _=>true) true n' 9 [c0]=some y0:=by
      have:=b 0 _ rfl;simpa [es,eu] using this
    have t1:DataW.trod enc prog W 0 (fun _=>true) true n' 47 [c1]=some y1:=by
      have:=b 1 _ rfl;simpa [es,eu] using this
    have t2:DataW.trod enc prog W 0 (fun _=>true) true n' 9 [c2]=some y2:=by
      have:=b 2 _ rfl;simpa [es,eu] using this
    have t3:DataW.trod enc prog W 0 (fun _=>true) true n' 9 [c3]=some y3:=by
      have:=b 3 _ rfl;simpa [es,eu] using this
    have hw:∀ y,y∈y0.1.weights prog 9∨y∈y2.1.weights prog 9∨y∈y3.1.weights prog 9→y≤reachBytes:=fun y hy=>A y (by
      rw [hd];simp only [DataW.weights,underlying49];simp [DataW.weightsEach]
      rcases hy with hy | hy | hy
      · exact .inl hy
      · exact .inr (.inr (.inl hy))
      · exact .inr (.inr (.inr hy)))
    obtain ⟨s0,g0,q0,_⟩:=C8 underlying9 t0;obtain rfl:c0=.string s0:=by simpa using g0
    have j:s0.size≤140737488351232:=by
      have:=hw s0.size (.inl (by rw [q0];simp [DataW.weights]))
      simpa [reachBytes] using this
    obtain ⟨s2,g2,q2,_⟩:=C8 underlying9 t2;obtain rfl:c2=.string s2:=by simpa using g2
    have m:s2.size≤140737488351232:=by
      have:=hw s2.size ((.inr ∘ .inl) (by rw [q2];simp [DataW.weights]))
      simpa [reachBytes] using this
    obtain ⟨s3,g3,q3,_⟩:=C8 underlying9 t3;obtain rfl:c3=.string s3:=by simpa using g3
    have z:s3.size≤140737488351232:=by
      have:=hw s3.size ((.inr ∘ .inr) (by rw [q3];simp [DataW.weights]))
      simpa [reachBytes] using this
    obtain ⟨z1,g1,_,f1⟩:=BA underlying47 t1;obtain ⟨n1,rfl,b1⟩:=QfJ f1;obtain rfl:c1=.int .u64 n1:=by simpa using g1
    exact ⟨⟨s0,n1,s2,s3⟩,rfl,j,b1,m,z⟩
theorem Qfj {H:Type} {enc:TypeId×Value→H} {W:World} {d:Nat} {c0 c1 c2 c3 c4 c5 c6 c7 c8 c9:Value} {x:DataW H×List MemPlace}
    (hf:DataW.trod enc prog W 0 (fun _=>true) true d 39 [c0,c1,c2,c3,c4,c5,c6,c7,c8,c9]=some x) (q:∀ y∈x.1.weights prog 39,y≤reachBytes) :
    ∃ g:Up,UpV W W.heap.size (.agg #[c0,c1,c2,c3,c4,c5,c6,c7,c8,c9]) g∧g.fits:=by
  obtain ⟨xs,n',_,hd,_,e,b⟩:=Cb underlying39 hf;have e0:prog.cellsOf 3=1:=by kernel_rfl
  have e2:prog.cellsOf 34=1:=by kernel_rfl
  match xs,e with
  | [y0,y1,y2],_ =>
    have t0:DataW.trod enc prog W 0 (fun _=>true) true n' 3 [c0]=some y0:=by
      have:=b 0 _ rfl;simpa [e0] using this
    have t1:DataW.trod enc prog W 0 (fun _=>true) true n' 37 [c1,c2,c3,c4,c5,c6,c7,c8]=some y1:=by
      have:=b 1 _ rfl;simpa [Qlj] using this
    have t2:DataW.trod enc prog W 0 (fun _=>true) true n' 34 [c9]=some y2:=by
      have:=b 2 _ rfl;simpa [e2] using this
    have j:x.1=.agg [y0.1,y1.1,y2.1]:=Bl Prod.fst hd
    have hw:∀ y,y∈y1.1.weights prog 37∨y∈y2.1.weights prog 34→y≤reachBytes:=fun y hy=>q y (by
      rw [j];simp only [DataW.weights];simp [DataW.weightsEach]
      exact .inr hy)
    obtain ⟨z,g0,_⟩:=BA underlying3 t0;obtain rfl:c0=Bb z:=by simp_all
    obtain ⟨s,hs,m⟩:=QkR t1 (fun y hy=>hw y (.inl hy))
    obtain ⟨l2,b2,f2,k2⟩:=QjX t2 (fun y hy=>hw y (.inr hy))
    exact ⟨⟨z,s,l2⟩,⟨c1,c2,c3,c4,c5,c6,c7,c8,c9,rfl,hs,b2⟩,m,k2,f2⟩
theorem YE {H:Type} {enc:TypeId×Value→H} {W:World} {b:Nat} {c:Value} {x:DataW H×List MemPlace} (h:DataW.trod enc prog W 0 (fun _=>true) true b 3 [c]=some x):∃ z:Int,c=Bb z∧-9223372036854775808≤z∧z≤9223372036854775807:=by
  obtain ⟨z,g,_,f⟩:=BA underlying3 h;refine ⟨z,by simpa using g,?_⟩
  simpa [Lit.wf,IntKind.min,IntKind.signed,IntKind.bits] using f
theorem QkK {H:Type} {enc:TypeId×Value→H} {W:World} {d:Nat} {c0 c1 c2 c3 c4:Value} {x:DataW H×List MemPlace}
    (hf:DataW.trod enc prog W 0 (fun _=>true) true d 51 [c0,c1,c2,c3,c4]=some x):∃ a b:Int,c0=Bb a∧c1=Bb b∧(-9223372036854775808≤a∧a≤9223372036854775807)∧-9223372036854775808≤b∧b≤9223372036854775807:=by
  obtain ⟨xs,n',_,_,_,j,e⟩:=Cb underlying51 hf;have e1:prog.cellsOf 3=1:=by kernel_rfl
  match xs,j with
  | [y0,y1,y2,y3,y4],_ =>
    have t0:DataW.trod enc prog W 0 (fun _=>true) true n' 3 [c0]=some y0:=by
      have:=e 0 _ rfl;simpa [e1] using this
    have t1:DataW.trod enc prog W 0 (fun _=>true) true n' 3 [c1]=some y1:=by
      have:=e 1 _ rfl;simpa [e1] using this
    obtain ⟨a,ha,ra⟩:=YE t0;obtain ⟨b,hb,rb⟩:=YE t1;exact ⟨a,b,ha,hb,ra,rb⟩
theorem Qe {α:Type} {l:List α} {n:Nat} (h:l.length=n+1):∃ a t,l=a :: t∧t.length=n:=by cases l <;> grind
theorem Qp9 {H:Type} {enc:TypeId×Value→H} {W:World} {z:Nat} {c0 c1 c2 c3 c4 c5 c6 c7 c8 c9 A1 A2 A3 A4 A5 A6 A7 A8 A9 Aa Ab Ac Ad Ae Af Ag Ah Ai Aj Ak Al A0 Am An Ao Ap Aq Ar As At Au Av Aw Ax Ay Az AA AB AC AD AE AF AG AH AI AJ AK AL AM AN AO AP:Value} {x:DataW H×List MemPlace}
    (hf:DataW.trod enc prog W 0 (fun _=>true) true z 53 [c0,c1,c2,c3,c4,c5,c6,c7,c8,c9,A1,A2,A3,A4,A5,A6,A7,A8,A9,Aa,Ab,Ac,Ad,Ae,Af,Ag,Ah,Ai,Aj,Ak,Al,A0,Am,An,Ao,Ap,Aq,Ar,As,At,Au,Av,Aw,Ax,Ay,Az,AA,AB,AC,AD,AE,AF,AG,AH,AI,AJ,AK,AL,AM,AN,AO,AP]=some x) (d:∀ y∈x.1.weights prog 53,y≤reachBytes) :
    ∃ (m:Ms) (o:Nat→Option Addr) (c:Nat→Nat),[c0,c1,c2,c3,c4,c5,c6,c7,c8,c9,A1,A2,A3,A4,A5,A6,A7,A8,A9,Aa,Ab,Ac,Ad,Ae,Af,Ag,Ah,Ai,Aj,Ak,Al,A0,Am,An,Ao,Ap,Aq,Ar,As,At,Au,Av,Aw,Ax,Ay,Az,AA,AB,AC,AD,AE,AF,AG,AH,AI,AJ,AK,AL,AM,AN,AO,AP]=msC m o c∧MsM W W.heap.size m o c∧m.fits∧(-9223372036854775808≤m.pk.dst∧m.pk.dst≤9223372036854775807)∧-9223372036854775808≤m.pk.src∧m.pk.src≤9223372036854775807:=by
  obtain ⟨xs,n',_,hd,_,C,b⟩:=Cb underlying53 hf;have e1:prog.cellsOf 3=1:=by kernel_rfl
  have e2:prog.cellsOf 9=1:=by kernel_rfl
  have e3:prog.cellsOf 4=1:=by kernel_rfl
  have e4:prog.cellsOf 29=1:=by kernel_rfl
  have e5:prog.cellsOf 31=4:=by kernel_rfl
  have e6:prog.cellsOf 39=10:=by kernel_rfl
  have e7:prog.cellsOf 46=18:=by kernel_rfl
  have e8:prog.cellsOf 49=4:=by kernel_rfl
  have e9:prog.cellsOf 51=5:=by kernel_rfl
  match xs,C with
  | [y0,y1,y2,y3,y4,y5,y6,y7,y8,y9,y10,y11,y12,y13,y14,y15,y16],_ =>
    have t0:DataW.trod enc prog W 0 (fun _=>true) true n' 3 [c0]=some y0:=by
      have:=b 0 _ rfl;simpa [e1,e2,e3,e4,e5,e6,e7,e8,e9] using this
    have t1:DataW.trod enc prog W 0 (fun _=>true) true n' 9 [c1]=some y1:=by
      have:=b 1 _ rfl;simpa [e1,e2,e3,e4,e5,e6,e7,e8,e9] using this
    have t2:DataW.trod enc prog W 0 (fun _=>true) true n' 3 [c2]=some y2:=by
      have:=b 2 _ rfl;simpa [e1,e2,e3,e4,e5,e6,e7,e8,e9] using this
    have t3:DataW.trod enc prog W 0 (fun _=>true) true n' 31 [c3,c4,c5,c6]=some y3:=by
      have:=b 3 _ rfl;simpa [e1,e2,e3,e4,e5,e6,e7,e8,e9] using this
    have t4:DataW.trod enc prog W 0 (fun _=>true) true n' 3 [c7]=some y4:=by
      have:=b 4 _ rfl;simpa [e1,e2,e3,e4,e5,e6,e7,e8,e9] using this
    have t5:DataW.trod enc prog W 0 (fun _=>true) true n' 39 [c8,c9,A1,A2,A3,A4,A5,A6,A7,A8]=some y5:=by
      have:=b 5 _ rfl;simpa [e1,e2,e3,e4,e5,e6,e7,e8,e9] using this
    have t6:DataW.trod enc prog W 0 (fun _=>true) true n' 39 [A9,Aa,Ab,Ac,Ad,Ae,Af,Ag,Ah,Ai]=some y6:=by
      have:=b 6 _ rfl;simpa [e1,e2,e3,e4,e5,e6,e7,e8,e9] using this
    have t7:DataW.trod enc prog W 0 (fun _=>true) true n' 3 [Aj]=some y7:=by
      have:=b 7 _ rfl;simpa [e1,e2,e3,e4,e5,e6,e7,e8,e9] using this
    have t8:DataW.trod enc prog W 0 (fun _=>true) true n' 3 [Ak]=some y8:=by
      have:=b 8 _ rfl;simpa [e1,e2,e3,e4,e5,e6,e7,e8,e9] using this
    have t9:DataW.trod enc prog W 0 (fun _=>true) true n' 3 [Al]=some y9:=by
      have:=b 9 _ rfl;simpa [e1,e2,e3,e4,e5,e6,e7,e8,e9] using this
    have aX:DataW.trod enc prog W 0 (fun _=>true) true n' 4 [A0]=some y10:=by
      have:=b 10 _ rfl;simpa [e1,e2,e3,e4,e5,e6,e7,e8,e9] using this
    have aY:DataW.trod enc prog W 0 (fun _=>true) true n' 46 [Am,An,Ao,Ap,Aq,Ar,As,At,Au,Av,Aw,Ax,Ay,Az,AA,AB,AC,AD]=some y11:=by
      have:=b 11 _ rfl;simpa [e1,e2,e3,e4,e5,e6,e7,e8,e9] using this
    have aZ:DataW.trod enc prog W 0 (fun _=>true) true n' 49 [AE,AF,AG,AH]=some y12:=by
      have:=b 12 _ rfl;simpa [e1,e2,e3,e4,e5,e6,e7,e8,e9] using this
    have a7:DataW.trod enc prog W 0 (fun _=>true) true n' 3 [AI]=some y13:=by
      have:=b 13 _ rfl;simpa [e1,e2,e3,e4,e5,e6,e7,e8,e9] using this
    have a8:DataW.trod enc prog W 0 (fun _=>true) true n' 3 [AJ]=some y14:=by
      have:=b 14 _ rfl;simpa [e1,e2,e3,e4,e5,e6,e7,e8,e9] using this
    have O:DataW.trod enc prog W 0 (fun _=>true) true n' 51 [AK,AL,AM,AN,AO]=some y15:=by
      have:=b 15 _ rfl;simpa [e1,e2,e3,e4,e5,e6,e7,e8,e9] using this
    have a9:DataW.trod enc prog W 0 (fun _=>true) true n' 29 [AP]=some y16:=by
      have:=b 16 _ rfl;simpa [e1,e2,e3,e4,e5,e6,e7,e8,e9] using this
    have w1:∀ y∈y1.1.weights prog 9,y≤reachBytes:=fun y hy=>d y (by rw [hd];simp only [DataW.weights,underlying53];simp [DataW.weightsEach,hy])
    have w3:∀ y∈y3.1.weights prog 31,y≤reachBytes:=fun y hy=>d y (by rw [hd];simp only [DataW.weights,underlying53];simp [DataW.weightsEach,hy])
    have w5:∀ y∈y5.1.weights prog 39,y≤reachBytes:=fun y hy=>d y (by rw [hd];simp only [DataW.weights,underlying53];simp [DataW.weightsEach,hy])
    have w6:∀ y∈y6.1.weights prog 39,y≤reachBytes:=fun y hy=>d y (by rw [hd];simp only [DataW.weights,underlying53];simp [DataW.weightsEach,hy])
    have aa:∀ y∈y11.1.weights prog 46,y≤reachBytes:=fun y hy=>d y (by rw [hd];simp only [DataW.weights,underlying53];simp [DataW.weightsEach,hy])
    have ab:∀ y∈y12.1.weights prog 49,y≤reachBytes:=fun y hy=>d y (by rw [hd];simp only [DataW.weights,underlying53];simp [DataW.weightsEach,hy])
    have ac:∀ y∈y15.1.weights prog 51,y≤reachBytes:=fun y hy=>d y (by rw [hd];simp only [DataW.weights,underlying53];simp [DataW.weightsEach,hy])
    have ad:∀ y∈y16.1.weights prog 29,y≤reachBytes:=fun y hy=>d y (by rw [hd];simp only [DataW.weights,underlying53];simp [DataW.weightsEach,hy])
    obtain ⟨z0,rfl,-⟩:=YE t0;obtain ⟨z1,g1,aU,_⟩:=C8 underlying9 t1;obtain rfl:c1=.string z1:=by simpa using g1
    have f1:z1.size≤140737488351232:=by
      have:=w1 z1.size (by rw [aU];simp [DataW.weights])
      simpa [reachBytes] using this
    obtain ⟨z2,rfl,-⟩:=YE t2;obtain ⟨kn,rfl,rfl,L,M,fk⟩:=Qf9 t3 w3;obtain ⟨k0,aV,rfl,-⟩:=L.shape;obtain ⟨k1,aW,rfl,-⟩:=M.shape;obtain ⟨z4,rfl,-⟩:=YE t4;obtain ⟨u5,G,aR⟩:=Qfj t5 w5;obtain ⟨a1,T,a2,Y,a3,aA,a4,aB,a5,aC,a6,aD,j,-⟩:=G.open;simp only [BX,BP,BM,BQ] at j;obtain ⟨rfl,rfl,rfl,rfl,rfl,rfl,rfl,rfl,rfl,rfl⟩:=j;obtain ⟨u6,I,aS⟩:=Qfj t6 w6;obtain ⟨b1,aE,b2,aF,b3,aG,b4,aH,b5,aI,b6,aJ,q,-⟩:=I.open;simp only [BX,BP,BM,BQ] at q;obtain ⟨rfl,rfl,rfl,rfl,rfl,rfl,rfl,rfl,rfl,rfl⟩:=q;obtain ⟨z7,rfl,-⟩:=YE t7;obtain ⟨z8,rfl,-⟩:=YE t8;obtain ⟨z9,rfl,-⟩:=YE t9;obtain ⟨S,aT,_⟩:=DT underlying4 aX;obtain rfl:A0=.bool S:=by simpa using aT
    obtain ⟨sh,E,aP⟩:=Qms aY aa;obtain ⟨q1,aK,q2,aL,q3,aM,r1,s1,r2,s2,r3,s3,r4,s4,r5,s5,r6,s6,es,-⟩:=E.open;simp only [BX,BP,BM,BQ] at es;obtain ⟨rfl,rfl,rfl,rfl,rfl,rfl,rfl,rfl,rfl,rfl,rfl,rfl,rfl,rfl,rfl,rfl,rfl,rfl⟩:=es;obtain ⟨tr,et,aQ⟩:=Qig aZ ab;simp only [BX,BP,BM,BQ] at et;obtain ⟨rfl,rfl,rfl,rfl⟩:=et;obtain ⟨ae,rfl,-⟩:=YE a7;obtain ⟨af,rfl,-⟩:=YE a8;obtain ⟨pa,pb,ha,hb,ra,rb⟩:=QkK O;obtain ⟨e,D,aO⟩:=QkJ O ac;obtain ⟨od,cd,ep,-⟩:=D.open;simp only [BX,BP,BM,BQ] at ep;obtain ⟨rfl,rfl,rfl,rfl,rfl⟩:=ep;obtain rfl:e.src=pa:=by simpa using ha
    obtain rfl:e.dst=pb:=by simpa using hb
    obtain ⟨ack,A,aN⟩:=J6 a9 ad;obtain ⟨oa,ca,rfl,-⟩:=A.shape;exact ⟨⟨z0,z1,z2,kn,z4,u5,u6,z7,z8,z9,S,sh,tr,ae,af,e,ack⟩,fun i=>([k0,k1,a1,a2,a3,a4,a5,a6,b1,b2,b3,b4,b5,b6,q1,q2,q3,r1,r2,r3,r4,r5,r6,od,oa]:List (Option Addr)).getD i none,fun i=>([aV,aW,T,Y,aA,aB,aC,aD,aE,aF,aG,aH,aI,aJ,aK,aL,aM,s1,s2,s3,s4,s5,s6,cd,ca]:List Nat).getD i 0,rfl,⟨⟨_,_,rfl,L,M⟩,G,I,E,D,A⟩,⟨f1,fk,aR,aS,aP,aQ,aO,aN⟩,rb,ra⟩
theorem Qsc {H:Type} {enc:TypeId×Value→H} {W:World} {base:Nat} {v:Value} {d:DataW H} {p:List MemPlace}
    (b:Value.okWide prog W .any base 53 v) (h:DataW.Trod enc prog W 0 (fun _=>true) true 53 v d p) (ag:∀ y∈d.weights prog 53,y≤reachBytes) :
    ∃ (m:Ms) (o:Nat→Option Addr) (c:Nat→Nat),v=.agg (msC m o c).toArray∧MsM W W.heap.size m o c∧m.fits∧(-9223372036854775808≤m.pk.dst∧m.pk.dst≤9223372036854775807)∧-9223372036854775808≤m.pk.src∧m.pk.src≤9223372036854775807:=by
  obtain ⟨cs,rfl,af⟩:=okWide_struct underlying53 b;obtain ⟨l⟩:=cs;obtain ⟨c0,l0,rfl,h1⟩:=Qe af;obtain ⟨c1,l1,rfl,h2⟩:=Qe h1;obtain ⟨c2,l2,rfl,h3⟩:=Qe h2;obtain ⟨c3,l3,rfl,h4⟩:=Qe h3;obtain ⟨c4,l4,rfl,h5⟩:=Qe h4;obtain ⟨c5,l5,rfl,h6⟩:=Qe h5;obtain ⟨c6,l6,rfl,h7⟩:=Qe h6;obtain ⟨c7,l7,rfl,h8⟩:=Qe h7;obtain ⟨c8,l8,rfl,h9⟩:=Qe h8;obtain ⟨c9,l9,rfl,j⟩:=Qe h9;obtain ⟨c10,l10,rfl,q⟩:=Qe j;obtain ⟨c11,l11,rfl,z⟩:=Qe q;obtain ⟨c12,l12,rfl,A⟩:=Qe z;obtain ⟨c13,l13,rfl,C⟩:=Qe A;obtain ⟨c14,l14,rfl,D⟩:=Qe C;obtain ⟨c15,l15,rfl,E⟩:=Qe D;obtain ⟨c16,l16,rfl,G⟩:=Qe E;obtain ⟨c17,l17,rfl,I⟩:=Qe G;obtain ⟨c18,l18,rfl,L⟩:=Qe I;obtain ⟨c19,l19,rfl,M⟩:=Qe L;obtain ⟨c20,l20,rfl,O⟩:=Qe M;obtain ⟨c21,l21,rfl,S⟩:=Qe O;obtain ⟨c22,l22,rfl,T⟩:=Qe S;obtain ⟨c23,l23,rfl,Y⟩:=Qe T;obtain ⟨c24,l24,rfl,aA⟩:=Qe Y;obtain ⟨c25,l25,rfl,aB⟩:=Qe aA;obtain ⟨c26,l26,rfl,aC⟩:=Qe aB;obtain ⟨c27,l27,rfl,aD⟩:=Qe aC;obtain ⟨c28,l28,rfl,aE⟩:=Qe aD;obtain ⟨c29,l29,rfl,aF⟩:=Qe aE;obtain ⟨c30,l30,rfl,aG⟩:=Qe aF;obtain ⟨c31,l31,rfl,aH⟩:=Qe aG;obtain ⟨c32,l32,rfl,aI⟩:=Qe aH;obtain ⟨c33,l33,rfl,aJ⟩:=Qe aI;obtain ⟨c34,l34,rfl,aK⟩:=Qe aJ;obtain ⟨c35,l35,rfl,aL⟩:=Qe aK;obtain ⟨c36,l36,rfl,aM⟩:=Qe aL;obtain ⟨c37,l37,rfl,aN⟩:=Qe aM;obtain ⟨c38,l38,rfl,aO⟩:=Qe aN;obtain ⟨c39,l39,rfl,aP⟩:=Qe aO;obtain ⟨c40,l40,rfl,aQ⟩:=Qe aP;obtain ⟨c41,l41,rfl,aR⟩:=Qe aQ;obtain ⟨c42,l42,rfl,aS⟩:=Qe aR;obtain ⟨c43,l43,rfl,aT⟩:=Qe aS;obtain ⟨c44,l44,rfl,aU⟩:=Qe aT;obtain ⟨c45,l45,rfl,aV⟩:=Qe aU;obtain ⟨c46,l46,rfl,aW⟩:=Qe aV;obtain ⟨c47,l47,rfl,aX⟩:=Qe aW;obtain ⟨c48,l48,rfl,aY⟩:=Qe aX;obtain ⟨c49,l49,rfl,aZ⟩:=Qe aY;obtain ⟨c50,l50,rfl,a3⟩:=Qe aZ;obtain ⟨c51,l51,rfl,a4⟩:=Qe a3;obtain ⟨c52,l52,rfl,a5⟩:=Qe a4;obtain ⟨c53,l53,rfl,a6⟩:=Qe a5
  obtain ⟨c54,l54,rfl,a7⟩:=Qe a6;obtain ⟨c55,l55,rfl,a8⟩:=Qe a7;obtain ⟨c56,l56,rfl,a9⟩:=Qe a8;obtain ⟨c57,l57,rfl,aa⟩:=Qe a9;obtain ⟨c58,l58,rfl,ab⟩:=Qe aa;obtain ⟨c59,l59,rfl,ac⟩:=Qe ab;obtain ⟨c60,l60,rfl,ad⟩:=Qe ac;obtain ⟨c61,l61,rfl,ae⟩:=Qe ad;obtain rfl:=CE.1 ae;obtain ⟨fuel,hf⟩:=h;obtain ⟨m,o,c,e,h1⟩:=Qp9 (x:=(d,p)) hf ag;exact ⟨m,o,c,by rw [← e],h1⟩
def msZ:Ms:=⟨0,⟨#[]⟩,0,⟨0,0,[],[]⟩,0,⟨0,⟨⟨⟨#[]⟩,0,0,[],[],[]⟩,[],[]⟩,[]⟩,⟨0,⟨⟨⟨#[]⟩,0,0,[],[],[]⟩,[],[]⟩,[]⟩,0,0,0,false,⟨0,⟨0,0,[],[],[]⟩,⟨false,false,⟨0,0,[],[],[]⟩,⟨0,0,[],[],[]⟩⟩⟩,⟨⟨#[]⟩,0,⟨#[]⟩,⟨#[]⟩⟩,0,0,⟨0,0,0,[],0⟩,[]⟩
def Ms.fitsR (m:Ms):Prop:=m.fits∧(-9223372036854775808≤m.pk.dst∧m.pk.dst≤9223372036854775807)∧-9223372036854775808≤m.pk.src∧m.pk.src≤9223372036854775807
theorem Qsd {H:Type} {enc:TypeId×Value→H} {W:World} {base:Nat} {v:Value} {d:DataW H} {p:List MemPlace}
    (b:Value.okWide prog W .any base 53 v) (h:DataW.Trod enc prog W 0 (fun _=>true) true 53 v d p) (j:∀ y∈d.weights prog 53,y≤reachBytes):∃ g:Ms,MsV W W.heap.size v g∧g.fitsR:=by
  obtain ⟨m,o,c,e,h1,h2⟩:=Qsc b h j;exact ⟨m,⟨o,c,e,h1⟩,h2⟩
open Go.RowKit
theorem Qt8 (s:St) (m:Ms) (o:Nat→Option Addr) (c:Nat→Nat) (v:Value) (N:Nat) (w:World) (hk:m.kind=18) (hv:StV w N v s) (hN:N≤w.heap.size)
    (hc:∀ W,Bd w W→Calls prog 65 #[v,.agg (msC m o c).toArray] W fun e w'=>Bd W w'∧∃ v',e=.returned (.tuple #[v',Bb (Qbl s m.tr)])∧Qp N W.heap.size w' v' (Qjr s m.tr)) :
    Calls prog 31 #[v,.agg (msC m o c).toArray] w fun e w'=>Bd w w'∧∃ x,e=.returned x∧QqZ N w.heap.size w' x ⟨Qjr s m.tr,Qbl s m.tr,0,Pk.none⟩:=by
  obtain ⟨o1,c1,o2,c2,o3,c3,o4,c4,o5,c5,o6,c6,o7,c7,rfl,-⟩:=hv.open;have HC:=hid hc;clear hc hv;generalize s.clients.length=n1,s.conns.length=n2,s.chans.length=n3,s.sent.length=n4,s.got.length=n5,s.acks.length=n6,s.purses.length=n7 at *
  go_in
  go_upto_region 1 with fail
  refine Qah ?_;intro w0 F0 hs;have q0:w0.cell? ⟨w.heap.size+1,0,none⟩=some (Bb 18):=hk ▸ F0.r1.cell 0;have hkk:=hid hk;clear hs hk
  go_wp2_with (first | refine F0.load 0 rfl Qa ?_ | refine F0.load 1 rfl Y6 ?_)
  refine (HC.out _ F0.b).mono ?_;rintro e w1 ⟨j,v',rfl,hh⟩;have F1:=F0.go j;have HH:=hid hh;have l2:=F0.r2.lt;have l3:=F0.r3.lt;have q:=hid F0.b.size;obtain ⟨a1,b1,d1,a2,b2,d2,a3,b3,d3,a4,b4,d4,a5,b5,d5,a6,b6,d6,a7,b7,d7,rfl⟩:=hh.open;clear j hh HC F0 q0
  go_wp2_with fail
  refine (QcR _ _ _ _ _ _ _ _ _ _ _ _ _ _ _ _ _ _ _ _ _ _ _ _ _ _).mono ?_;rintro e w2 ⟨rfl,d⟩;have F2:=F1.go d;have z:=hid (HH.out.below d);clear d F1 HH
  go_wp2_with (first | (refine F2.store 2 rfl Qa (by simp) ?_;intro w3 F3 O3) | (refine F3.store 3 rfl Qy (by simp) ?_;intro w4 F4 O4))
  refine Qa5 results31 rfl F4.r2 Qa rfl F4.r3 Qy rfl ⟨F4.b,_,rfl,_,none,0,0,rfl,?_,Jp _ _ _⟩;exact (((z.out.only O3 (by omega) l2).only O4 (by omega) l3)).lower q.out
def tr0:Tr:=⟨⟨#[103,111,108,100]⟩,2,⟨#[97,110,110]⟩,⟨#[98,111,98]⟩⟩
def st0:St:=⟨⟨#[97]⟩,0,0,[],[],[],[],[],[],[⟨⟨#[97,110,110]⟩,⟨#[103,111,108,100]⟩,5⟩]⟩
def hd0:Hd:=⟨⟨#[]⟩,0,0,[],[],[]⟩
def ms0:Ms:=⟨18,⟨#[]⟩,0,Kn.none,0,⟨0,⟨hd0,[],[]⟩,[]⟩,⟨0,⟨hd0,[],[]⟩,[]⟩,0,0,0,false,⟨0,⟨0,0,[],[],[]⟩,⟨false,false,⟨0,0,[],[],[]⟩,⟨0,0,[],[],[]⟩⟩⟩,tr0,0,0,Pk.none,[]⟩
theorem Qwh:Jj (QG tr0)=0:=by kernel_rfl
theorem Qwi:[tr0.sender,tr0.reader].any ZR=false:=by kernel_rfl
theorem Qwd:Qam st0.purses tr0.sender tr0.reader tr0.denom tr0.amount=0:=by kernel_rfl
theorem Qwe:(J8 st0.purses tr0.sender tr0.reader tr0.denom tr0.amount).length=2:=by kernel_rfl
theorem QvW:Qd st0=0:=by kernel_rfl
theorem Qv9:Qbl st0 tr0=0:=by
  unfold Qbl;have h:trN tr0 [tr0.sender,tr0.reader]=0:=by unfold trN;rw [Qwh,Qwi];rfl
  rw [h,if_neg (by simp)]
  exact Qwd
theorem Qtb:tr0.fits:=⟨by show 4≤_;omega,by show 2<_;omega,by show 3≤_;omega,by show 3≤_;omega⟩
theorem Qmx:st0.fits:=⟨by show 1≤_;omega,⟨by show 0<_;omega,fun _ h=>by cases h⟩,by show 0<_;omega,by show 0<_;omega,⟨by show 0<_;omega,fun _ h=>by cases h⟩,⟨by show 0<_;omega,fun _ h=>by cases h⟩,⟨by show 0<_;omega,fun _ h=>by cases h⟩,by show 1<_;omega,fun p hp=>by
  obtain rfl:=BO.1 hp
  exact ⟨by show 3≤_;omega,by show 4≤_;omega,by show 5<_;omega⟩⟩
theorem Qwf:QtU st0 (Qjq st0 ms0)=⟨{ st0 with purses:=J8 st0.purses tr0.sender tr0.reader tr0.denom tr0.amount },0,0,Pk.none⟩:=by
  have h:Qjq st0 ms0=⟨{ st0 with purses:=J8 st0.purses tr0.sender tr0.reader tr0.denom tr0.amount },0,0,Pk.none⟩:=by
    unfold Qjq Qjr;rw [show Qbl st0 ms0.tr=0 from Qv9,if_pos rfl];rfl
  unfold QtU;rw [QvW,if_neg (by simp),h,if_neg (by simp)]
theorem QtA (w:World):Calls prog 6 #[] w fun e w'=>e=.returned (.bool true)∧Bd w w':=by
  go_in
  go_upto_region 2 with (refine FrB.store (((FrB.nil w).addAt (t:=70) (cs:=[.string ⟨#[97,110,110]⟩,.string ⟨#[103,111,108,100]⟩,.int .u64 5]) rfl).addAt (t:=28) (cs:=[.string ⟨#[]⟩,Bb 0,Bb 0,Bc,Bc,Bc,Bc,Bc,Bc,Bc]) (g:=w.heap.size+1) (by simp)) 1 rfl Qa (by simp) ?_;intro w1 F1 O1)
  have HV:=hid (show StV w1 w1.heap.size (.agg #[.string ⟨#[97]⟩,Bb 0,Bb 0,Bc,Bc,Bc,Bc,Bc,Bc,.slice (some ⟨w.heap.size,0,none⟩) 1 1]) st0 from ⟨_,_,_,_,_,_,_,rfl,Qt.nil _ _ _ _,Qt.nil _ _ _ _,Qt.nil _ _ _ _,Qt.nil _ _ _ _,Qt.nil _ _ _ _,Qt.nil _ _ _ _,QoL (.inr (.inr ⟨w.heap.size,0,1,rfl,Bj _,fun i r hi=>by
    match i,hi with
    | 0,hi =>
      obtain rfl:=Bu hi;refine ⟨F1.r0.lt,fun j y hy=>?_⟩
      have:=F1.r0.cell j;simp only [CR,Bq];rw [this]
      exact hy⟩))⟩)
  have m:=hid (QrA st0 ms0 (fun _=>none) (fun _=>0) _ w1.heap.size w1 (Qjq st0 ms0) HV.out (Bj _) Qmx (fun _ W hb=>Qt8 st0 ms0 _ _ _ w1.heap.size W rfl (HV.out.below hb) hb.size (fun W2 d=>QlE st0 ms0 _ _ _ w1.heap.size W2 ((HV.out.below hb).below (d.mono hb.size)) (Bh hb.size d.size) Qmx Qtb QvW)))
  rw [Qwf] at m;clear HV O1
  go_wp2_with (refine F1.load 1 rfl Qa ?_)
  refine Calls.mono (show Calls prog 8 #[_,.agg (msC ms0 (fun _=>none) (fun _=>0)).toArray] w1 _ from m.out) ?_
  rintro e w2 ⟨d,x,rfl,v',od,nd,cd,rfl,hh,-⟩;have F2:=F1.go d;have q:(J8 st0.purses tr0.sender tr0.reader tr0.denom tr0.amount).length=2:=Qwe;obtain ⟨o1,c1,o2,c2,o3,c3,o4,c4,o5,c5,o6,c6,o7,c7,rfl,-⟩:=hh.now.open;simp only [q];clear d hh m F1 q;simp only [st0,Pk.none]
  go_upto_region 3 with (first | (refine FrB.store ((F2.addAt (t:=28) (cs:=[.string ⟨#[]⟩,Bb 0,Bb 0,Bc,Bc,Bc,Bc,Bc,Bc,Bc]) rfl).addAt (t:=58) (cs:=[Bb 0,Bb 0,Bb 0,Bb 0,Bb 0,Bc,Bb 0]) (g:=w2.heap.size+1) (by simp)) 2 rfl Qa (by simp) ?_;intro w3 F3 O3) | (refine F3.store 3 rfl Qy (by simp) ?_;intro w4 F4 O4))
  have k9:=F4.r2.k10.2.2.2.2.2.2.2.2.2;have d0:=F4.r3.k7.1;have HB:=hid F4.b;clear O3 O4 F2 F3 F4;go_wp2;go_ret;exact ⟨rfl,HB.out⟩
theorem fCn:prog.underlying 82=some (.struct (prog.fieldsOf 82)):=by kernel_rfl
theorem gCn:prog.stoodInHeld 82=false:=by kernel_rfl
theorem QvO (x y:Cn) (w:World):(binOp .neq 82 (.agg #[Bb x.state,Bb x.client,Bb x.oclient,Bb x.oconn]) (.agg #[Bb y.state,Bb y.client,Bb y.oclient,Bb y.oconn])).run prog w=.ok (.bool (decide (x.state≠y.state∨x.client≠y.client∨x.oclient≠y.oclient∨x.oconn≠y.oconn))) w:=by
  have u3:=underlying3;have a3:=isAgg3;have z3:=sizeOf3;have u4:=underlying4;have a4:=isAgg4;have z4:=sizeOf4;rw [run_neq_struct,run_equalIn_struct w 9999 _ _ _ fCn gCn];simp only [Program.fieldsOf,underlying82];go_simp
  by_cases h0:x.state=y.state <;> by_cases h1:x.client=y.client <;> by_cases h2:x.oclient=y.oclient <;> by_cases h3:x.oconn=y.oconn <;> simp [h0,h1,h2,h3]
theorem fCh:prog.underlying 86=some (.struct (prog.fieldsOf 86)):=by kernel_rfl
theorem gCh:prog.stoodInHeld 86=false:=by kernel_rfl
theorem QvN (x y:Ch) (w:World):(binOp .neq 86 (.agg #[Bb x.state,.bool x.ordered,Bb x.conn,Bb x.ochan,Bb x.send,Bb x.recv,Bb x.ack]) (.agg #[Bb y.state,.bool y.ordered,Bb y.conn,Bb y.ochan,Bb y.send,Bb y.recv,Bb y.ack])).run prog w=.ok (.bool (decide (x.state≠y.state∨x.ordered≠y.ordered∨x.conn≠y.conn∨x.ochan≠y.ochan∨x.send≠y.send∨x.recv≠y.recv∨x.ack≠y.ack))) w:=by
  have u3:=underlying3;have a3:=isAgg3;have z3:=sizeOf3;have u4:=underlying4;have a4:=isAgg4;have z4:=sizeOf4;rw [run_neq_struct,run_equalIn_struct w 9999 _ _ _ fCh gCh];simp only [Program.fieldsOf,underlying86];go_simp
  by_cases h0:x.state=y.state <;> by_cases h1:x.ordered=y.ordered <;> by_cases h2:x.conn=y.conn <;> by_cases h3:x.ochan=y.ochan <;> by_cases h4:x.send=y.send <;> by_cases h5:x.recv=y.recv <;> by_cases h6:x.ack=y.ack <;> simp [h0,h1,h2,h3,h4,h5,h6]
theorem Cn.same {x y:Cn}:(x.state≠y.state∨x.client≠y.client∨x.oclient≠y.oclient∨x.oconn≠y.oconn)↔x≠y:=by
  obtain ⟨a,b,c,d⟩:=x;obtain ⟨a',b',c',d'⟩:=y;simp only [ne_eq,Cn.mk.injEq]
  by_cases h0:a=a' <;> by_cases h1:b=b' <;> by_cases h2:c=c' <;> by_cases h3:d=d' <;> simp [h0,h1,h2,h3]
theorem Ch.same {x y:Ch}:(x.state≠y.state∨x.ordered≠y.ordered∨x.conn≠y.conn∨x.ochan≠y.ochan∨x.send≠y.send∨x.recv≠y.recv∨x.ack≠y.ack)↔x≠y:=by
  obtain ⟨a,b,c,d,e,f,g⟩:=x;obtain ⟨a',b',c',d',e',f',g'⟩:=y;simp only [ne_eq,Ch.mk.injEq]
  by_cases h0:a=a' <;> by_cases h1:b=b' <;> by_cases h2:c=c' <;> by_cases h3:d=d' <;> by_cases h4:e=e' <;> by_cases h5:f=f' <;> by_cases h6:g=g' <;> simp [h0,h1,h2,h3,h4,h5,h6]
theorem Qur {α:Type} (l m:List α) (k:Nat) (x:α) (hx:l[k]?=some x) (hy:m[k]?=some x) (h:l.take k=m.take k):l.take (k+1)=m.take (k+1):=by rw [CU,CU,hx,hy,h]
theorem Qnm {α:Type} (l m:List α) (k:Nat) (x y:α) (hx:l[k]?=some x) (hy:m[k]?=some y) (h:x≠y):¬ l=m:=fun e=>h (by rw [e,hy] at hx;simpa using hx.symm)
theorem QdM (w:World) (N n:Nat):Below N w (w.drewN n):=⟨rfl,rfl,rfl,Bj _,fun _ _=>rfl⟩
theorem QiO (l m:List Mk) (sa sb:Value) (Na Nb:Nat) (w:World) (ha:Qt MkR 3 w Na sa l) (hb:Qt MkR 3 w Nb sb m) (hlen:l.length<2305843009213693952) (A:∀ p∈l,p.fits) (C:∀ p∈m,p.fits) :
    Calls prog 33 #[sa,sb] w fun e w'=>∃ bb,e=.returned (.bool bb)∧(bb=true↔l=m)∧∃ n,w'=w.drewN n:=by
  obtain ⟨oa,ca,rfl,hca⟩:=ha.shape;obtain ⟨ob,cb,rfl,S⟩:=hb.shape
  by_cases j:l.length=m.length
  · have HA:=hid ha
    have HB:=hid hb;have M:=hid A;have O:=hid C;clear ha hb A C;rw [← j] at HB S ⊢;have HE:=hid j;clear j;generalize hn:l.length=n at *;have HN:=hid hn;clear hn;have T:((n:Int) != (n:Int))=false:=by simp
    go_in
    go_wp2_with fail
    go_loopw [5,13] (fun _ i wr=>∃ k q:Nat,k≤n∧i=Bb k∧wr=w.drewN q∧Hid (l.take k=m.take k)) (fun _ i _=>n-(intOf i).toNat)
    case atStart=>exact ⟨0,0,by omega,rfl,rfl,hid rfl⟩
    case round =>
      obtain ⟨k,q,hk,rfl,rfl,HT⟩:=hrel
      by_cases L:k<n
      · obtain ⟨x,hx⟩:∃ p,l[k]?=some p:=⟨l[k]'(by rw [HN.out];exact L),Bk _⟩
        obtain ⟨y,hy⟩:∃ p,m[k]?=some p:=⟨m[k]'(by rw [← HE.out];exact L),Bk _⟩
        obtain ⟨b1,p1,rfl,cx⟩:=HA.out.spot (by omega)
        obtain ⟨b2,p2,rfl,cy⟩:=HB.out.spot (by omega)
        obtain ⟨_,rx,⟨vx,rfl,D⟩,x0⟩:=cx k x hx;obtain ⟨_,ry,⟨vy,rfl,E⟩,y0⟩:=cy k y hy;obtain ⟨o1,c1,rfl,_⟩:=D.shape;obtain ⟨o2,c2,rfl,_⟩:=E.shape;have q0:=x0 0 _ rfl;have q1:=x0 1 _ rfl;have q2:=x0 2 _ rfl;have r0:=y0 0 _ rfl;have r1:=y0 1 _ rfl;have r2:=y0 2 _ rfl;simp only [BI] at q0 r0;have hlt':(k:Int)<(n:Int):=by omega
        have HX:=hid hx;have HY:=hid hy;have G:=M.out x (Bn hx);have I:=O.out y (Bn hy);clear cx cy hx hy x0 y0
        have d:=hid (fun wq:Nat=>show Calls prog 72 #[.slice o1 x.dig.length c1,.slice o2 y.dig.length c2] (w.drewN (q+wq)) (fun e w'=>e=.returned (.bool (decide (x.dig=y.dig)))∧∃ n,w'=w.drewN (q+n)) from
          (QfL x.dig y.dig _ _ Na Nb (w.drewN (q+wq)) (D.below (QdM _ _ _)) (E.below (QdM _ _ _)) (by unfold Mk.fits at G;omega) (by unfold Mk.fits at I;omega)).mono fun e w' ⟨h1,n',h2⟩=>⟨h1,wq+n',by rw [h2,El,Da]⟩)
        clear D E G I
        by_cases h1:x.chan=y.chan
        · have e1:(x.chan != y.chan)=false:=by simpa using h1
          by_cases h2:x.seq=y.seq
          · have e2:(x.seq != y.seq)=false:=by simpa using h2
            by_cases h3:x.dig=y.dig
            · have z:=hid (Qur l m k x HX.out (by rw [HY.out];congr 1;obtain ⟨_,_,_⟩:=x;obtain ⟨_,_,_⟩:=y;simp_all) HT.out)
              rw [BB h3] at d;clear h1 h2 h3
              go_wp2_with fail
              go_quiet (first | (go_at_call_of 72 (Value.slice o1 x.dig.length c1);exact d.out _))
              go_wp2;go_roundw
              case rel=>exact ⟨k+1,q+nq,by omega,by go_num,rfl,z⟩
              case measure=>simp [intOf];omega
            · rw [BC h3] at d
              have b:=hid (Qnm l m k x y HX.out HY.out (fun e=>h3 (by rw [e])))
              clear h1 h2 h3
              go_wp2_with fail
              go_quiet (first | (go_at_call_of 72 (Value.slice o1 x.dig.length c1);exact d.out _))
              go_wp2;go_ret;exact ⟨false,rfl,⟨fun h=>by simp at h,fun h=>absurd h b.out⟩,q+nq,El _ _ _⟩
          · have e2:(x.seq != y.seq)=true:=by simpa using h2
            have b:=hid (Qnm l m k x y HX.out HY.out (fun e=>h2 (by rw [e])))
            clear h1 h2
            go_wp2_with fail
            go_quiet (first | (go_at_call_of 72 (Value.slice o1 x.dig.length c1);exact d.out _))
            go_wp2;go_ret;exact ⟨false,rfl,⟨fun h=>by simp at h,fun h=>absurd h b.out⟩,q+nq,El _ _ _⟩
        · have e1:(x.chan != y.chan)=true:=by simpa using h1
          have b:=hid (Qnm l m k x y HX.out HY.out (fun e=>h1 (by rw [e])))
          clear h1
          go_wp2_with fail
          go_quiet (first | (go_at_call_of 72 (Value.slice o1 x.dig.length c1);exact d.out _))
          go_wp2;go_ret;exact ⟨false,rfl,⟨fun h=>by simp at h,fun h=>absurd h b.out⟩,q+nq,El _ _ _⟩
      · have z:=hid (show l=m by
          have:=HT.out
          rwa [Bw (by rw [HN.out];omega),Bw (by rw [← HE.out];omega)] at this)
        go_wp2;go_ret;exact ⟨true,rfl,⟨fun _=>z.out,fun _=>rfl⟩,q,rfl⟩
  · have T:((l.length:Int) != (m.length:Int))=true:=by simp;omega
    have b:=hid (show ¬ l=m from fun h=>j (by rw [h]))
    clear ha hb A C
    go_in
    go_wp2;go_ret;exact ⟨false,rfl,⟨fun h=>by simp at h,fun h=>absurd h b.out⟩,0,rfl⟩
theorem QnY (c:Cl) (va vb:Value) (N:Nat) (w:World) (hN:N≤w.heap.size) (ha:ClV w N va c) (hb:ClV w N vb c) (hf:c.fits) :
    Calls prog 34 #[va,vb] w fun e w'=>e=.returned (.bool true)∧Bd w w':=by
  obtain ⟨kv,rfl,hk⟩:=ha;obtain ⟨oa,ca,rfl,_⟩:=hk.shape;obtain ⟨kv',rfl,aH⟩:=hb;obtain ⟨ob,cb,rfl,_⟩:=aH.shape;obtain ⟨f1,f2,f3⟩:=hf;obtain ⟨w0,T⟩:∃ w0,(w.alloc (.cells #[.string c.chain,Bb c.trust,.bool c.frozen,.slice oa c.known.length ca] 78)).alloc (.cells #[.string c.chain,Bb c.trust,.bool c.frozen,.slice ob c.known.length cb] 78)=w0:=⟨_,rfl⟩;have z:=hid (show Bd w w0 by rw [← T];exact ((Bi _ _).alloc (Bj _) _).alloc (by simp) _)
  have Y:=hid (show Row w0 w.heap.size 78 [.string c.chain,Bb c.trust,.bool c.frozen,.slice oa c.known.length ca] by rw [← T];exact (Row.new _ _ _).alloc _)
  have aA:=hid (show Row w0 (w.heap.size+1) 78 [.string c.chain,Bb c.trust,.bool c.frozen,.slice ob c.known.length cb] by rw [← T];exact Row.newAt _ _ _ _ (by simp))
  obtain ⟨⟨a0,a1,a2,a3⟩,_⟩:=Y.out.four;obtain ⟨⟨b0,b1,aL,b3⟩,_⟩:=aA.out.four;have HA:=hid hk;have HB:=hid aH;have HF:=hid f3;have aK:=hid T;have q1:(c.chain.toList == c.chain.toList)=true:=by simp
  have q1':(c.chain.toList != c.chain.toList)=false:=by simp
  have q2:(c.trust != c.trust)=false:=by simp
  have q3:(c.frozen != c.frozen)=false:=by simp
  clear hk aH f3 T;generalize hl:c.known=l at *;clear hl;generalize hn:l.length=n at *;have HN:=hid hn;clear hn;have q4:((n:Int) != (n:Int))=false:=by simp
  go_in
  go_wp2_with fail
  rw [aK.out]
  go_loopw [5,6,7,39] (fun _ _ _ i wr=>∃ k:Nat,k≤n∧i=Bb (k:Int)∧Hid (Bd w0 wr)) (fun _ _ _ i _=>n-(intOf i).toNat)
  case atStart=>exact ⟨0,by omega,rfl,hid (Bi _ _)⟩
  case round =>
    obtain ⟨k,hk,rfl,HT⟩:=hrel;have aJ:=hid (z.out.trans (HT.out.mono z.out.size))
    by_cases aM:k<n
    · obtain ⟨x,D⟩:∃ x,l[k]?=some x:=⟨l[k]'(by rw [HN.out];exact aM),Bk _⟩
      obtain ⟨b,o,rfl,G⟩:=HA.out.spot (by omega)
      obtain ⟨b2,q2,rfl,A⟩:=HB.out.spot (by omega)
      obtain ⟨hbN,vr,vn,d0,d1,d2,d3,g2,g3⟩:=G k x D;obtain ⟨o3,c3,rfl,_⟩:=g2.shape;obtain ⟨o4,c4,rfl,_⟩:=g3.shape;obtain ⟨hbN2,vr,vn,e0,e1,e2,e3,h2,h3⟩:=A k x D;obtain ⟨p3,C,rfl,_⟩:=h2.shape;obtain ⟨p4,d4,rfl,_⟩:=h3.shape;have aB:b<w.heap.size:=by omega
      have E:b2<w.heap.size:=by omega
      have hlt':(k:Int)<(n:Int):=by omega
      have aI:=hid (show ∀ wx,Bd w0 wx→(((wx.cell? ⟨w.heap.size,3,none⟩=some (.slice (some ⟨b,o,none⟩) n ca))∧(wx.cell? ⟨w.heap.size+1,3,none⟩=some (.slice (some ⟨b2,q2,none⟩) n cb)))∧((wx.cell? ⟨b,o+k*4,none⟩=some (Bb x.height))∧((wx.cell? ⟨b,o+k*4+1,none⟩=some (Bb x.time))∧(wx.cell? ⟨b,o+k*4+2,none⟩=some (.slice o3 x.root.length c3)))))∧(((wx.cell? ⟨b,o+k*4+3,none⟩=some (.slice o4 x.next.length c4))∧(wx.cell? ⟨b2,q2+k*4,none⟩=some (Bb x.height)))∧((wx.cell? ⟨b2,q2+k*4+1,none⟩=some (Bb x.time))∧((wx.cell? ⟨b2,q2+k*4+2,none⟩=some (.slice p3 x.root.length C))∧(wx.cell? ⟨b2,q2+k*4+3,none⟩=some (.slice p4 x.next.length d4))))) from fun wx hx=>by
        have d:=z.out.trans (hx.mono z.out.size)
        exact ⟨⟨⟨(Y.out.below hx Y.out.lt).cell 3,(aA.out.below hx aA.out.lt).cell 3⟩,⟨(d.cell (p:=⟨b,o+k*4,none⟩) aB).trans d0,⟨(d.cell (p:=⟨b,o+k*4+1,none⟩) aB).trans d1,(d.cell (p:=⟨b,o+k*4+2,none⟩) aB).trans d2⟩⟩⟩,⟨⟨(d.cell (p:=⟨b,o+k*4+3,none⟩) aB).trans d3,(d.cell (p:=⟨b2,q2+k*4,none⟩) E).trans e0⟩,⟨(d.cell (p:=⟨b2,q2+k*4+1,none⟩) E).trans e1,⟨(d.cell (p:=⟨b2,q2+k*4+2,none⟩) E).trans e2,(d.cell (p:=⟨b2,q2+k*4+3,none⟩) E).trans e3⟩⟩⟩⟩)
      have s0:=aI.out wr HT.out;have m1:w.heap.size<wr.heap.size:=Br Y.out.lt HT.out.size;have m2:w.heap.size+1<wr.heap.size:=Br aA.out.lt HT.out.size;have n1:wr.heap.size≠w.heap.size:=by omega
      have n2:wr.heap.size≠w.heap.size+1:=by omega
      have n3:wr.heap.size≠b:=by omega
      have n4:wr.heap.size≠b2:=by omega
      have n5:wr.heap.size+1≠w.heap.size:=by omega
      have n6:wr.heap.size+1≠w.heap.size+1:=by omega
      have n7:wr.heap.size+1≠b:=by omega
      have n8:wr.heap.size+1≠b2:=by omega
      have aC:=hid (show ∀ wx,Bd w0 wx→Calls prog 72 #[.slice o3 x.root.length c3,.slice p3 x.root.length C] wx fun e w'=>e=.returned (.bool true)∧Bd wx w' from fun wx hx=>by
        have d:=(z.out.trans (hx.mono z.out.size)).mono hN;refine (QfL x.root x.root _ _ N N wx (g2.below d) (h2.below d) (by have:=(HF.out x (Bn D)).1;omega) (by have:=(HF.out x (Bn D)).1;omega)).mono ?_
        rintro e w' ⟨rfl,q,rfl⟩
        exact ⟨by simp,QZ _ _ _⟩)
      have aD:=hid (show ∀ wx,Bd w0 wx→Calls prog 72 #[.slice o4 x.next.length c4,.slice p4 x.next.length d4] wx fun e w'=>e=.returned (.bool true)∧Bd wx w' from fun wx hx=>by
        have d:=(z.out.trans (hx.mono z.out.size)).mono hN;refine (QfL x.next x.next _ _ N N wx (g3.below d) (h3.below d) (by have:=(HF.out x (Bn D)).2;omega) (by have:=(HF.out x (Bn D)).2;omega)).mono ?_
        rintro e w' ⟨rfl,q,rfl⟩
        exact ⟨by simp,QZ _ _ _⟩)
      have t1:(x.height != x.height)=false:=by simp
      have t2:(x.time != x.time)=false:=by simp
      clear G A d0 d1 d2 d3 e0 e1 e2 e3 g2 g3 h2 h3 D a0 a1 a2 a3 b0 b1 aL b3
      go_wp2_with fail
      go_region_held3 (fun W=>(((W.cell? ⟨w.heap.size,3,none⟩=some (.slice (some ⟨b,o,none⟩) n ca))∧(W.cell? ⟨w.heap.size+1,3,none⟩=some (.slice (some ⟨b2,q2,none⟩) n cb)))∧((W.cell? ⟨b,o+k*4,none⟩=some (Bb x.height))∧((W.cell? ⟨b,o+k*4+1,none⟩=some (Bb x.time))∧(W.cell? ⟨b,o+k*4+2,none⟩=some (.slice o3 x.root.length c3)))))∧(((W.cell? ⟨b,o+k*4+3,none⟩=some (.slice o4 x.next.length c4))∧(W.cell? ⟨b2,q2+k*4,none⟩=some (Bb x.height)))∧((W.cell? ⟨b2,q2+k*4+1,none⟩=some (Bb x.time))∧((W.cell? ⟨b2,q2+k*4+2,none⟩=some (.slice p3 x.root.length C))∧(W.cell? ⟨b2,q2+k*4+3,none⟩=some (.slice p4 x.next.length d4)))))) (first | assumption | go_keep) (fail)
      · obtain ⟨w5,j⟩:∃ w5,((wr.alloc (.cells #[Bb x.height,Bb x.time,.slice o3 x.root.length c3,.slice o4 x.next.length c4] 31)).alloc (.cells #[Bb x.height,Bb x.time,.slice p3 x.root.length C,.slice p4 x.next.length d4] 31)).drew=w5:=⟨_,rfl⟩
        have I:=hid (show Bd w0 w5 by rw [← j];exact ((HT.out.alloc HT.out.size _).alloc (by have:=HT.out.size;simp;omega) _).drew)
        have M:=hid (show Row w5 wr.heap.size 31 [Bb x.height,Bb x.time,.slice o3 x.root.length c3,.slice o4 x.next.length c4] by rw [← j];exact ((Row.new _ _ _).alloc _).drew)
        have O:=hid (show Row w5 (wr.heap.size+1) 31 [Bb x.height,Bb x.time,.slice p3 x.root.length C,.slice p4 x.next.length d4] by rw [← j];exact (Row.newAt _ _ _ _ (by simp)).drew)
        rw [j];clear j s0 m1 m2 n1 n2 n3 n4 n5 n6 n7 n8;obtain ⟨⟨x0,x1,x2,x3⟩,_⟩:=M.out.four;obtain ⟨⟨y0,y1,y2,y3⟩,_⟩:=O.out.four
        go_wp2_with fail
        refine (aC.out _ I.out).mono ?_;rintro e w6 ⟨rfl,m⟩;have L:=hgo I m;have aF:=rgo M m;have aG:=rgo O m;clear m x0 x1 x2 x3 y0 y1 y2 y3;obtain ⟨⟨x0,x1,x2,x3⟩,_⟩:=aF.out.four;obtain ⟨⟨y0,y1,y2,y3⟩,_⟩:=aG.out.four
        go_wp2_with fail
        refine (aD.out _ L.out).mono ?_;rintro e w7 ⟨rfl,S⟩;have aE:=hgo L S;clear S x0 x1 x2 x3 y0 y1 y2 y3;go_wp2;go_roundw
        case rel=>exact ⟨k+1,by omega,by go_num,hid aE.out⟩
        case measure=>simp [intOf];omega
      · obtain ⟨w5,j⟩:∃ w5,((wr.alloc (.cells #[Bb x.height,Bb x.time,.slice p3 x.root.length C,.slice p4 x.next.length d4] 31)).alloc (.cells #[Bb x.height,Bb x.time,.slice o3 x.root.length c3,.slice o4 x.next.length c4] 31)).drew=w5:=⟨_,rfl⟩
        have I:=hid (show Bd w0 w5 by rw [← j];exact ((HT.out.alloc HT.out.size _).alloc (by have:=HT.out.size;simp;omega) _).drew)
        have M:=hid (show Row w5 wr.heap.size 31 [Bb x.height,Bb x.time,.slice p3 x.root.length C,.slice p4 x.next.length d4] by rw [← j];exact ((Row.new _ _ _).alloc _).drew)
        have O:=hid (show Row w5 (wr.heap.size+1) 31 [Bb x.height,Bb x.time,.slice o3 x.root.length c3,.slice o4 x.next.length c4] by rw [← j];exact (Row.newAt _ _ _ _ (by simp)).drew)
        rw [j];clear j s0 m1 m2 n1 n2 n3 n4 n5 n6 n7 n8;obtain ⟨⟨x0,x1,x2,x3⟩,_⟩:=M.out.four;obtain ⟨⟨y0,y1,y2,y3⟩,_⟩:=O.out.four
        go_wp2_with fail
        refine (aC.out _ I.out).mono ?_;rintro e w6 ⟨rfl,m⟩;have L:=hgo I m;have aF:=rgo M m;have aG:=rgo O m;clear m x0 x1 x2 x3 y0 y1 y2 y3;obtain ⟨⟨x0,x1,x2,x3⟩,_⟩:=aF.out.four;obtain ⟨⟨y0,y1,y2,y3⟩,_⟩:=aG.out.four
        go_wp2_with fail
        refine (aD.out _ L.out).mono ?_;rintro e w7 ⟨rfl,S⟩;have aE:=hgo L S;clear S x0 x1 x2 x3 y0 y1 y2 y3;go_wp2;go_roundw
        case rel=>exact ⟨k+1,by omega,by go_num,hid aE.out⟩
        case measure=>simp [intOf];omega
    · have hge:decide ((k:Int)<(n:Int))=false:=by simp;omega
      go_wp2;go_ret;exact ⟨rfl,aJ.out⟩
theorem fPu:prog.underlying 70=some (.struct (prog.fieldsOf 70)):=by kernel_rfl
theorem gPu:prog.stoodInHeld 70=false:=by kernel_rfl
theorem QvP (x:Pu) (w:World):(binOp .neq 70 (.agg #[.string x.owner,.string x.denom,.int .u64 (x.amount:Int)]) (.agg #[.string x.owner,.string x.denom,.int .u64 (x.amount:Int)])).run prog w=.ok (.bool false) w:=by
  have u3:=underlying9;have a3:=isAgg9;have z3:=sizeOf9;have u4:=underlying47;have a4:=isAgg47;have z4:=sizeOf47;rw [run_neq_struct,run_equalIn_struct w 9999 _ _ _ fPu gPu];simp only [Program.fieldsOf,underlying70];go_simp
theorem QnD (x:Cn) (w:World):(binOp .neq 82 (.agg #[Bb x.state,Bb x.client,Bb x.oclient,Bb x.oconn]) (.agg #[Bb x.state,Bb x.client,Bb x.oclient,Bb x.oconn])).run prog w=.ok (.bool false) w:=by
  rw [QvO];simp
theorem QnC (x:Ch) (w:World):(binOp .neq 86 (.agg #[Bb x.state,.bool x.ordered,Bb x.conn,Bb x.ochan,Bb x.send,Bb x.recv,Bb x.ack]) (.agg #[Bb x.state,.bool x.ordered,Bb x.conn,Bb x.ochan,Bb x.send,Bb x.recv,Bb x.ack])).run prog w=.ok (.bool false) w:=by
  rw [QvN];simp
theorem Qhm {o:Oper} {ev:Operand→Value} {W:World} {b:BinOp} {t t':TypeId} {x y:Operand} {p q:Array Value} {v:Value} (ho:o.op=.binOp b t x y t') (hx:ev x=.agg p) (hy:ev y=.agg q) (hm:prog.eqGuardType prog.depth t=false) (h:(binOp b t (.agg p) (.agg q)).run prog W=.ok v W):(execOp ev o).run prog W=.ok (.value v) W:=by
  unfold execOp;simp only [ho,hx,hy,Cz,run_eqGuard_agg W b t x y p q hm,h,CH,CG]
theorem Qt.range {α:Type} {R:World→Nat→List Value→α→Prop} {k N n d i:Nat} {w:World} {oa:Option Addr} {l:List α} {x:α} (h:Qt R k w N (.slice oa n d) l) (hx:l[i]?=some x) (hl:i<n):∃ b f r,oa=some ⟨b,f,.none⟩∧R w N r x∧∀ W,Below N w W→W.rangeAt b (f+i*k) r:=by
  obtain ⟨b,f,rfl,gx⟩:=h.spot (by omega)
  obtain ⟨hb,r,hr,cx⟩:=gx i x hx;exact ⟨b,f,r,rfl,hr,fun W hW j v hj=>(hW.cell hb).trans (cx j v hj)⟩
theorem Qmo (s:St) (va vb:Value) (N:Nat) (w:World) (hN:N≤w.heap.size) (ha:StV w N va s) (hb:StV w N vb s) (hf:s.fits) :
    Calls prog 9 #[va,vb] w fun e w'=>e=.returned (.bool true)∧Bd w w':=by
  obtain ⟨o1,c1,o2,c2,o3,c3,o4,c4,o5,c5,o6,c6,o7,c7,rfl,L⟩:=ha.open;obtain ⟨p1,d1,p2,d2,p3,d3,p4,d4,p5,d5,p6,d6,p7,d7,rfl,M⟩:=hb.open;obtain ⟨-,⟨hl1,D⟩,hl2,hl3,E,G,I,hl7,-⟩:=hf;have q:=hid (show ∀ (l:List Mk),(l.length<2305843009213693952∧∀ m∈l,m.fits)→∀ va vb W,Qt MkR 3 W N va l→Qt MkR 3 W N vb l→Calls prog 33 #[va,vb] W (fun e w'=>e=.returned (.bool true)∧Bd W w') from fun l hf va vb W h1 h2=>(QiO l l va vb N N W h1 h2 hf.1 hf.2 hf.2).mono (by rintro e w' ⟨bb,h1,h2,n,h3⟩;exact ⟨by rw [h1,h2.2 rfl],by rw [h3];exact QZ _ _ _⟩))
  have HM:=hid (fun W (h:Bd w W)=>And.intro (L.below (h.mono hN)) (M.below (h.mono hN)))
  have HF:=hid D;have HQ:=hid (And.intro E (And.intro G I));have n1:∀ a:Int,(a != a)=false:=by simp
  clear ha hb L M D E G I
  go_in
  go_upto_region 1 with fail
  refine QbK ?_;intro w3 F hs;have ka:=F.r0.cell;have ja:=F.r1.cell
  go_wp2_with (first | (go_at_call_of 33 (Value.slice o4 s.sent.length c4);refine (q.out s.sent HQ.out.1 _ _ _ (HM.out _ F.b).1.sent (HM.out _ F.b).2.sent).mono ?_;rintro e w3 ⟨rfl,j⟩;replace F:=F.go j;clear j;have ka:=F.r0.cell;have ja:=F.r1.cell) | (go_at_call_of 33 (Value.slice o5 s.got.length c5);refine (q.out s.got HQ.out.2.1 _ _ _ (HM.out _ F.b).1.got (HM.out _ F.b).2.got).mono ?_;rintro e w3 ⟨rfl,j⟩;replace F:=F.go j;clear j;have ka:=F.r0.cell;have ja:=F.r1.cell) | (go_at_call_of 33 (Value.slice o6 s.acks.length c6);refine (q.out s.acks HQ.out.2.2 _ _ _ (HM.out _ F.b).1.acks (HM.out _ F.b).2.acks).mono ?_;rintro e w3 ⟨rfl,j⟩;replace F:=F.go j;clear j;have ka:=F.r0.cell;have ja:=F.r1.cell))
  clear ka ja
  go_loopw [5,91] (fun _ i wr=>∃ k:Nat,k≤s.clients.length∧i=Bb (k:Int)∧Hid (Bd w3 wr)) (fun _ i _=>s.clients.length-(intOf i).toNat)
  case atStart=>exact ⟨0,by omega,rfl,hid (Bi _ _)⟩
  case round =>
    obtain ⟨k,hk,rfl,HT⟩:=hrel;have HR:=hid (F.go HT.out)
    by_cases d:k<s.clients.length
    · obtain ⟨x,hx⟩:∃ x,s.clients[k]?=some x:=⟨_,Bk d⟩
      obtain ⟨b1,f1,_,rfl,⟨aA,rfl,A⟩,cx⟩:=(HM.out w (Bi _ _)).1.clients.range hx d;obtain ⟨b2,f2,_,rfl,⟨aB,rfl,C⟩,cy⟩:=(HM.out w (Bi _ _)).2.clients.range hx d;have hlt':(k:Int)<(s.clients.length:Int):=by omega
      have HX:=hid cx;have HY:=hid cy;have HC:=hid (fun W (hb:Bd w W)=>QnY x (.agg #[.string x.chain,Bb x.trust,.bool x.frozen,aA]) (.agg #[.string x.chain,Bb x.trust,.bool x.frozen,aB]) N W (Bh hN hb.size) ⟨_,rfl,A.below (hb.mono hN)⟩ ⟨_,rfl,C.below (hb.mono hN)⟩ (HF.out x (Bn hx)))
      clear A C;clear hx cx cy F
      go_upto_region 6 with fail
      apply QC (by kernel_rfl) (fun W hb=>And.intro (HR.out.go hb).r0.cell (HR.out.go hb).r1.cell) (by kernel_rfl)
      · intro σ;simp [Qj];exact rfl
      iterate 4 (apply RK.val rfl;· intro σ W hb hc ⟨hd,hu⟩;simp at hd hu;go_simp;exact rfl)
      apply RK.val rfl;· intro σ W hb hc ⟨hd,hu⟩;simp at hd;exact Jo rfl hd (HX.out W ((HR.out.go hb).b.mono hN)) Qm
      iterate 4 (apply RK.val rfl;· intro σ W hb hc ⟨hd,hu⟩;simp at hd hu;go_simp;exact rfl)
      apply RK.val rfl;· intro σ W hb hc ⟨hd,hu⟩;simp at hd;exact Jo rfl hd (HY.out W ((HR.out.go hb).b.mono hN)) Qm
      apply RK.callV rfl
      · intro σ W hb hc ⟨hd,hu⟩;simp at hd hu;go_simp;exact ⟨rfl,rfl⟩
      · intro W hb hc;exact HC.out W (HR.out.go hb).b
      iterate 1 (apply RK.val rfl;· intro σ W hb hc ⟨hd,hu⟩;simp at hd hu;go_simp;exact rfl)
      intro σ W hb _ hF;simp [Jm] at hF;go_simp;clear hF;have HB:=hgo HT hb;clear hb;go_wp2;go_roundw
      case rel=>exact ⟨k+1,by omega,by go_num,HB⟩
      case measure=>simp [intOf];omega
    · have z:decide ((k:Int)<(s.clients.length:Int))=false:=by simp;omega
      obtain ⟨u1,O⟩:∃ u,u=wr:=⟨_,rfl⟩;have F:=HR.out;rw [← O] at F ⊢;clear HT HR O;have ka:=F.r0.cell
      go_wp2_with fail
      clear ka
      go_loopw [6,110] (fun _ i wr=>∃ k:Nat,k≤s.conns.length∧i=Bb (k:Int)∧Hid (Bd u1 wr)) (fun _ i _=>s.conns.length-(intOf i).toNat)
      case atStart=>exact ⟨0,by omega,rfl,hid (Bi _ _)⟩
      case round =>
        obtain ⟨k,hk,rfl,HT⟩:=hrel;have HR:=hid (F.go HT.out)
        by_cases d:k<s.conns.length
        · obtain ⟨x,hx⟩:∃ x,s.conns[k]?=some x:=⟨_,Bk d⟩
          obtain ⟨b1,f1,_,rfl,rfl,cx⟩:=(HM.out w (Bi _ _)).1.conns.range hx d;obtain ⟨b2,f2,_,rfl,rfl,cy⟩:=(HM.out w (Bi _ _)).2.conns.range hx d;have hlt':(k:Int)<(s.conns.length:Int):=by omega
          have HX:=hid cx;have HY:=hid cy;clear hx cx cy F
          go_upto_region 12 with fail
          apply QC (by kernel_rfl) (fun W hb=>And.intro (HR.out.go hb).r0.cell (HR.out.go hb).r1.cell) (by kernel_rfl)
          · intro σ;simp [Qj];exact rfl
          iterate 4 (apply RK.val rfl;· intro σ W hb hc ⟨hd,hu⟩;simp at hd hu;go_simp;exact rfl)
          apply RK.val rfl;· intro σ W hb hc ⟨hd,hu⟩;simp at hd;exact Jo rfl hd (HX.out W ((HR.out.go hb).b.mono hN)) YW
          iterate 4 (apply RK.val rfl;· intro σ W hb hc ⟨hd,hu⟩;simp at hd hu;go_simp;exact rfl)
          apply RK.val rfl;· intro σ W hb hc ⟨hd,hu⟩;simp at hd;exact Jo rfl hd (HY.out W ((HR.out.go hb).b.mono hN)) YW
          apply RK.val rfl;· intro σ W hb hc ⟨hd,hu⟩;simp at hd;exact Qhm rfl hd.1 hd.2 eqGuardType82 (QnD x W)
          intro σ W hb _ hF;simp [Jm] at hF;go_simp;clear hF;have HB:=hgo HT hb;clear hb;go_wp2;go_roundw
          case rel=>exact ⟨k+1,by omega,by go_num,HB⟩
          case measure=>simp [intOf];omega
        · have z:decide ((k:Int)<(s.conns.length:Int))=false:=by simp;omega
          obtain ⟨u2,S⟩:∃ u,u=wr:=⟨_,rfl⟩;have F:=HR.out;rw [← S] at F ⊢;clear HT HR S;have ka:=F.r0.cell
          go_wp2_with fail
          clear ka
          go_loopw [7,128] (fun _ i wr=>∃ k:Nat,k≤s.chans.length∧i=Bb (k:Int)∧Hid (Bd u2 wr)) (fun _ i _=>s.chans.length-(intOf i).toNat)
          case atStart=>exact ⟨0,by omega,rfl,hid (Bi _ _)⟩
          case round =>
            obtain ⟨k,hk,rfl,HT⟩:=hrel;have HR:=hid (F.go HT.out)
            by_cases d:k<s.chans.length
            · obtain ⟨x,hx⟩:∃ x,s.chans[k]?=some x:=⟨_,Bk d⟩
              obtain ⟨b1,f1,_,rfl,rfl,cx⟩:=(HM.out w (Bi _ _)).1.chans.range hx d;obtain ⟨b2,f2,_,rfl,rfl,cy⟩:=(HM.out w (Bi _ _)).2.chans.range hx d;have hlt':(k:Int)<(s.chans.length:Int):=by omega
              have HX:=hid cx;have HY:=hid cy;clear hx cx cy F
              go_upto_region 18 with fail
              apply QC (by kernel_rfl) (fun W hb=>And.intro (HR.out.go hb).r0.cell (HR.out.go hb).r1.cell) (by kernel_rfl)
              · intro σ;simp [Qj];exact rfl
              iterate 4 (apply RK.val rfl;· intro σ W hb hc ⟨hd,hu⟩;simp at hd hu;go_simp;exact rfl)
              apply RK.val rfl;· intro σ W hb hc ⟨hd,hu⟩;simp at hd;exact Jo rfl hd (HX.out W ((HR.out.go hb).b.mono hN)) Yi
              iterate 4 (apply RK.val rfl;· intro σ W hb hc ⟨hd,hu⟩;simp at hd hu;go_simp;exact rfl)
              apply RK.val rfl;· intro σ W hb hc ⟨hd,hu⟩;simp at hd;exact Jo rfl hd (HY.out W ((HR.out.go hb).b.mono hN)) Yi
              apply RK.val rfl;· intro σ W hb hc ⟨hd,hu⟩;simp at hd;exact Qhm rfl hd.1 hd.2 eqGuardType86 (QnC x W)
              intro σ W hb _ hF;simp [Jm] at hF;go_simp;clear hF;have HB:=hgo HT hb;clear hb;go_wp2;go_roundw
              case rel=>exact ⟨k+1,by omega,by go_num,HB⟩
              case measure=>simp [intOf];omega
            · have z:decide ((k:Int)<(s.chans.length:Int))=false:=by simp;omega
              obtain ⟨u3,T⟩:∃ u,u=wr:=⟨_,rfl⟩;have F:=HR.out;rw [← T] at F ⊢;clear HT HR T;have ka:=F.r0.cell
              go_wp2_with fail
              clear ka
              go_loopw [8,146] (fun _ i wr=>∃ k:Nat,k≤s.purses.length∧i=Bb (k:Int)∧Hid (Bd u3 wr)) (fun _ i _=>s.purses.length-(intOf i).toNat)
              case atStart=>exact ⟨0,by omega,rfl,hid (Bi _ _)⟩
              case round =>
                obtain ⟨k,hk,rfl,HT⟩:=hrel;have HR:=hid (F.go HT.out)
                by_cases d:k<s.purses.length
                · obtain ⟨x,hx⟩:∃ x,s.purses[k]?=some x:=⟨_,Bk d⟩
                  obtain ⟨b1,f1,_,rfl,rfl,cx⟩:=(HM.out w (Bi _ _)).1.purses.range hx d;obtain ⟨b2,f2,_,rfl,rfl,cy⟩:=(HM.out w (Bi _ _)).2.purses.range hx d;have hlt':(k:Int)<(s.purses.length:Int):=by omega
                  have HX:=hid cx;have HY:=hid cy;clear hx cx cy F
                  go_upto_region 24 with fail
                  apply QC (by kernel_rfl) (fun W hb=>And.intro (HR.out.go hb).r0.cell (HR.out.go hb).r1.cell) (by kernel_rfl)
                  · intro σ;simp [Qj];exact rfl
                  iterate 4 (apply RK.val rfl;· intro σ W hb hc ⟨hd,hu⟩;simp at hd hu;go_simp;exact rfl)
                  apply RK.val rfl;· intro σ W hb hc ⟨hd,hu⟩;simp at hd;exact Jo rfl hd (HX.out W ((HR.out.go hb).b.mono hN)) Qdd
                  iterate 4 (apply RK.val rfl;· intro σ W hb hc ⟨hd,hu⟩;simp at hd hu;go_simp;exact rfl)
                  apply RK.val rfl;· intro σ W hb hc ⟨hd,hu⟩;simp at hd;exact Jo rfl hd (HY.out W ((HR.out.go hb).b.mono hN)) Qdd
                  apply RK.val rfl;· intro σ W hb hc ⟨hd,hu⟩;simp at hd;exact Qhm rfl hd.1 hd.2 eqGuardType70 (QvP x W)
                  intro σ W hb _ hF;simp [Jm] at hF;go_simp;clear hF;have HB:=hgo HT hb;clear hb;go_wp2;go_roundw
                  case rel=>exact ⟨k+1,by omega,by go_num,HB⟩
                  case measure=>simp [intOf];omega
                · have z:decide ((k:Int)<(s.purses.length:Int))=false:=by simp;omega
                  obtain ⟨u4,Y⟩:∃ u,u=wr:=⟨_,rfl⟩;have F:=HR.out;rw [← Y] at F ⊢;clear HT HR Y;have HB:=hid F.b;clear F;go_wp2;go_ret;exact ⟨rfl,HB.out⟩
def pk (x:Option Value) (a b:Value):Value:=match x with
  | none=>a
  | some _=>b
section
variable {w:World} {g:Nat} {e0 e1 e2 e3 e4 a0 a1 a2 a3 a4 b0 b1 b2 b3 b4:Value} {τ:Nat→Option Value} {W:World}
end
theorem QqD (p:Pk) (va vb:Value) (N:Nat) (w:World) (hN:N≤w.heap.size) (ha:PkV w N va p) (hb:PkV w N vb p):Calls prog 35 #[va,vb] w fun e w'=>e=.returned (.bool true)∧Bd w w':=by
  obtain ⟨od,cd,rfl,hd⟩:=ha.open;obtain ⟨oe,ce,rfl,he⟩:=hb.open;have HD:=hid (fun W (hb:Bd w W)=>QaU (hd.below (hb.mono hN)))
  have HE:=hid (fun W (hb:Bd w W)=>QaU (he.below (hb.mono hN)))
  have e0:(p.src == p.src)=true:=by simp
  have e1:(p.dst == p.dst)=true:=by simp
  have e2:(p.seq == p.seq)=true:=by simp
  have e3:(p.tmo == p.tmo)=true:=by simp
  have e4:((strOfNums (p.data.map b8)).toList == (strOfNums (p.data.map b8)).toList)=true:=by simp
  clear ha hb hd he;generalize strOfNums (p.data.map b8)=sd at *;generalize p.data.length=dl at *
  go_in
  go_upto_region 1 with fail
  refine QbK ?_;intro w0 F0 hs;have h1:=HD.out _ F0.b;have h2:=HE.out _ F0.b;obtain ⟨a0,a1,a2,a3,a4⟩:=F0.r0.k5;obtain ⟨b0,b1,b2,b3,b4⟩:=F0.r1.k5;have HB:=hid F0.b;clear hs HD HE F0
  go_wp2_with (simp only [h1,h2])
  go_ret;exact ⟨rfl,HB.out⟩
theorem Qmm (e n:Int) (p:Pk) (od oe:Option Addr) (nd cd ne ce:Nat) (N:Nat) (w:World) (hN:N≤w.heap.size) (ha:PkV w N (.agg #[Bb p.src,Bb p.dst,Bb p.seq,.slice od nd cd,Bb p.tmo]) p) (hb:PkV w N (.agg #[Bb p.src,Bb p.dst,Bb p.seq,.slice oe ne ce,Bb p.tmo]) p) :
    Calls prog 10 #[.agg #[Bb e,Bb n,Bb p.src,Bb p.dst,Bb p.seq,.slice od nd cd,Bb p.tmo],.agg #[Bb e,Bb n,Bb p.src,Bb p.dst,Bb p.seq,.slice oe ne ce,Bb p.tmo]] w fun x w'=>x=.returned (.bool true)∧Bd w w':=by
  have HC:=hid (fun W (hx:Bd w W)=>QqD p _ _ N W (Bh hN hx.size) (ha.below (hx.mono hN)) (hb.below (hx.mono hN)))
  have e0:(e == e)=true:=by simp
  have e1:(n == n)=true:=by simp
  clear ha hb
  go_in
  go_upto_region 1 with fail
  refine QbK ?_;intro w0 F0 hs;obtain ⟨a0,a1,a2,a3,a4,a5,a6⟩:=F0.r0.k7;obtain ⟨b0,b1,b2,b3,b4,b5,b6⟩:=F0.r1.k7;have HB:=hid F0.b;clear hs F0
  go_wp2_with fail
  refine (HC.out _ HB.out).mono ?_;rintro x w1 ⟨rfl,d⟩;have j:=hgo HB d;clear d;go_wp2;go_ret;exact ⟨rfl,j.out⟩
theorem QgU (s:St) (m:Ms) (o:Nat→Option Addr) (c:Nat→Nat) (v:Value) (N:Nat) (w:World) (z:Int) (hv:StV w N v s) (hm:MsM w N m o c) (hN:N≤w.heap.size) (E:s.fits) (aI:m.fits) (hi:(-9223372036854775808≤m.pk.dst∧m.pk.dst≤9223372036854775807)∧-9223372036854775808≤m.pk.src∧m.pk.src≤9223372036854775807) (aD:Qi w) (aC:QL w) (hz:Qpg s m z) :
    Calls prog 3 #[v,.agg (msC m o c).toArray] w fun e w'=>e=.returned (.bool true)∧Bd w w':=by
  have A:=hid (fun W (hb:Bd w W)=>QvH s m o c v N W z (hv.below (hb.mono hN)) (hm.below (hb.mono hN)) (Bh hN hb.size) E aI hi (aD.past hb) (aC.below hb) hz)
  have aF:=hid (fun W v' (h:StV W W.heap.size v' St.none)=>Qmo St.none v' (.agg #[.string ⟨#[]⟩,Bb 0,Bb 0,Bc,Bc,Bc,Bc,Bc,Bc,Bc]) W.heap.size W (Bj _) h (Qmy _ _) Qqc)
  have aG:=hid (fun W v' (hb:Bd w W) (h:StV W W.heap.size v' s)=>Qmo s v v' W.heap.size W (Bj _) ((hv.below (hb.mono hN)).mono (Bh hN hb.size)) h E)
  have aA:=hid (fun W (hb:Bd w W)=>Qa6 s v N W (hv.below (hb.mono hN)) (Bh hN hb.size) E)
  have aH:=hid (fun (t:St) W tv (ht:StV W W.heap.size tv t) (hf:t.fits)=>Qa6 t tv W.heap.size W ht (Bj _) hf)
  have aJ:=hid (fun (e:Int) W od nd cd (h:PkV W W.heap.size (.agg #[Bb 0,Bb 0,Bb 0,.slice od nd cd,Bb 0]) Pk.none)=>Qmm e 0 Pk.none od none nd cd 0 0 W.heap.size W (Bj _) h (Ql7 W _))
  have aE:=hid (fun (h:Qd s≠0)=>show doO s m z=YR St.none (Qd s) from if_pos h)
  have L:=hid (fun (h:Qd s=0) (h2:(QI s m z).err≠0)=>show doO s m z=YR s (QI s m z).err by unfold doO;rw [if_neg (by simp [h]),if_pos h2])
  have G:=hid (fun (h:Qd s=0) (h2:(QI s m z).err=0)=>show doO s m z=QI s m z∧Qd (QI s m z).st=0∧(QI s m z).st.fits∧(QI s m z).st.name=s.name∧(QI s m z).st.height=s.height∧(QI s m z).st.time=s.time by
    obtain ⟨g1,g2,g3⟩:=Qqe s m z E aI h h2
    exact ⟨by unfold doO;rw [if_neg (by simp [h]),if_neg (by simp [h2])],g1,QqA g1 g2,g3.same⟩)
  obtain ⟨o1,c1,o2,c2,o3,c3,o4,c4,o5,c5,o6,c6,o7,c7,rfl,-⟩:=hv.open;clear hv hm E aI hi aD aC hz;generalize s.clients.length=n1,s.conns.length=n2,s.chans.length=n3,s.sent.length=n4,s.got.length=n5,s.acks.length=n6,s.purses.length=n7 at *
  go_in
  go_upto_region 1 with fail
  refine QbK ?_;intro w0 F0 hs;clear hs
  go_wp2_with fail
  refine (QtA _).mono ?_;rintro e w1 ⟨rfl,Y⟩;have F1:=F0.go Y;clear Y F0
  go_wp2_with (refine F1.load 0 rfl Qa ?_)
  refine (aA.out _ F1.b).mono ?_;rintro e w1' ⟨rfl,Y⟩;have d:=F1.go Y;clear Y F1
  by_cases hw:Qd s=0
  · rw [hw]
    replace L:=hid (L.out hw);replace G:=hid (G.out hw);clear aE aF
    by_cases hz:(QI s m z).err=0
    · obtain ⟨hD,g1,g2,g3,g4,g5⟩:=G.out hz
      rw [hD] at A;have HG:=hid (And.intro g1 (And.intro g2 (And.intro g3 (And.intro g4 g5))));clear hD g1 g2 g3 g4 g5 L G hw;generalize QI s m z=D at *
      go_wp2_with (first | refine d.load 0 rfl Qa ?_ | refine d.load 1 rfl Y6 ?_)
      refine (A.out _ d.b).mono ?_;rintro e w2 ⟨j,x,rfl,v',od,nd,cd,rfl,hh,hp⟩;have F2:=d.go j;have aB:=j.size;have aO:=d.r1.lt;clear j A;clear d;rw [hz] at *;clear hz;generalize D.st=T at *;obtain ⟨p1,q1,r1,p2,q2,r2,p3,q3,r3,p4,q4,r4,p5,q5,r5,p6,q6,r6,p7,q7,r7,rfl⟩:=hh.open
      go_upto_region 7 with (first | (refine FrB.store ((F2.addAt (t:=28) (cs:=[.string ⟨#[]⟩,Bb 0,Bb 0,Bc,Bc,Bc,Bc,Bc,Bc,Bc]) rfl).addAt (t:=58) (cs:=[Bb 0,Bb 0,Bb 0,Bb 0,Bb 0,Bc,Bb 0]) (g:=w2.heap.size+1) (by simp)) 2 rfl Qa (by simp) ?_;intro w3 F3 O3) | (refine F3.store 3 rfl Qy (by simp) ?_;intro w4 F4 O4))
      have C:=O3.down (((Bi w2.heap.size w2).alloc (Bj _) _).alloc (by simp) _) (Bj _)
      have q:=O4.down C (by omega)
      have M:=hid (hh.below q);have I:=hid (hp.below q);clear hh hp O3 O4 C q F2 F3;have y0:w4.cell? ⟨w2.heap.size+1,0,none⟩=some (Bb 0):=F4.r3.cell 0;have HW:=hid (aH.out T _ _ M.out.now HG.out.2.1);clear aH I
      go_wp2_with (refine F4.load 2 rfl Qa ?_)
      refine HW.out.mono ?_;rintro e w5 ⟨rfl,O⟩;have F5:=F4.go O;rw [HG.out.1];obtain ⟨a0,a1,a2,-⟩:=F5.r2.k10;obtain ⟨b0,b1,b2,-⟩:=F5.r0.k10;rw [HG.out.2.2.1] at a0;rw [HG.out.2.2.2.1] at a1;rw [HG.out.2.2.2.2] at a2;have HB:=hid F5.b;have t0:(s.name.toList == s.name.toList)=true:=by simp
      have t1:(s.height == s.height)=true:=by simp
      have t2:(s.time == s.time)=true:=by simp
      clear O F4 F5 HW y0;go_wp2;go_ret;exact ⟨rfl,HB.out⟩
    · have hD:=L.out hz
      rw [hD] at A;generalize (QI s m z).err=de at *;clear hD L G hw
      go_wp2_with (first | refine d.load 0 rfl Qa ?_ | refine d.load 1 rfl Y6 ?_)
      refine (A.out _ d.b).mono ?_;rintro e w2 ⟨j,x,rfl,v',od,nd,cd,rfl,hh,hp⟩;have F2:=d.go j;have aB:=j.size;have aO:=d.r1.lt;clear j A;clear d;simp only at hh hp ⊢;obtain ⟨p1,q1,r1,p2,q2,r2,p3,q3,r3,p4,q4,r4,p5,q5,r5,p6,q6,r6,p7,q7,r7,rfl⟩:=hh.open
      go_upto_region 7 with (first | (refine FrB.store ((F2.addAt (t:=28) (cs:=[.string ⟨#[]⟩,Bb 0,Bb 0,Bc,Bc,Bc,Bc,Bc,Bc,Bc]) rfl).addAt (t:=58) (cs:=[Bb 0,Bb 0,Bb 0,Bb 0,Bb 0,Bc,Bb 0]) (g:=w2.heap.size+1) (by simp)) 2 rfl Qa (by simp) ?_;intro w3 F3 O3) | (refine F3.store 3 rfl Qy (by simp) ?_;intro w4 F4 O4))
      have C:=O3.down (((Bi w2.heap.size w2).alloc (Bj _) _).alloc (by simp) _) (Bj _)
      have q:=O4.down C (by omega)
      have M:=hid (hh.below q);have I:=hid (hp.below q);clear hh hp O3 O4 C q F2 F3;have y0:w4.cell? ⟨w2.heap.size+1,0,none⟩=some (Bb de):=F4.r3.cell 0;have hzb:(de != 0)=true:=by simpa using hz
      have aK:=hid (aG.out _ _ F4.b M.out.now);clear aG aA M hz
      go_wp2_with (first | refine F4.load 0 rfl Qa ?_ | refine F4.load 2 rfl Qa ?_)
      refine aK.out.mono ?_;rintro e w5 ⟨rfl,O⟩;have F5:=F4.go O;have aP:=hid (QM.now (I.out.below O));clear O F4 I aK y0;obtain ⟨a0,a1,a2,a3,a4,a5,a6⟩:=F5.r3.k7
      go_wp2_with fail
      refine (aJ.out de _ od nd cd aP.out).mono ?_;rintro e w6 ⟨rfl,aN⟩;have HB:=hid (F5.go aN).b;clear aN F5 a0 a1 a2 a3 a4 a5 a6;go_wp2;go_ret;exact ⟨rfl,HB.out⟩
  · have aR:(Qd s != 0)=true:=by simpa using hw
    have hD:=aE.out hw;rw [hD] at A;clear hD L G aE aG aJ aH;generalize Qd s=ws at *
    go_wp2_with (first | refine d.load 0 rfl Qa ?_ | refine d.load 1 rfl Y6 ?_)
    refine (A.out _ d.b).mono ?_;rintro e w2 ⟨j,x,rfl,v',od,nd,cd,rfl,hh,hp⟩;have F2:=d.go j;have aB:=j.size;have aO:=d.r1.lt;clear j A;clear d;simp only at hh hp ⊢;obtain ⟨p1,q1,r1,p2,q2,r2,p3,q3,r3,p4,q4,r4,p5,q5,r5,p6,q6,r6,p7,q7,r7,rfl⟩:=hh.open
    go_upto_region 5 with (first | (refine FrB.store ((F2.addAt (t:=28) (cs:=[.string ⟨#[]⟩,Bb 0,Bb 0,Bc,Bc,Bc,Bc,Bc,Bc,Bc]) rfl).addAt (t:=58) (cs:=[Bb 0,Bb 0,Bb 0,Bb 0,Bb 0,Bc,Bb 0]) (g:=w2.heap.size+1) (by simp)) 2 rfl Qa (by simp) ?_;intro w3 F3 O3) | (refine F3.store 3 rfl Qy (by simp) ?_;intro w4 F4 O4))
    have C:=O3.down (((Bi w2.heap.size w2).alloc (Bj _) _).alloc (by simp) _) (Bj _)
    have q:=O4.down C (by omega)
    have M:=hid (hh.below q);have I:=hid (hp.below q);clear hh hp O3 O4 C q F2 F3;have S:=hid F4;have aQ:=hid (fun W (hb:Bd w4 W)=>aF.out W _ (M.out.below hb).now)
    have aL:=hid (fun W (hb:Bd w4 W)=>aA.out W (S.out.go hb).b)
    have t1:(ws == ws)=true:=by simp
    clear F4 aF aA I hw aR;apply QC (by kernel_rfl) (fun W hb=>And.intro (show W.cell? ⟨w2.heap.size+1,0,none⟩=some (Bb ws) from (S.out.go hb).r3.cell 0) (And.intro (S.out.go hb).r0.k10 (S.out.go hb).r2.k10)) (by kernel_rfl)
    · intro σ;simp [Qj];exact rfl
    iterate 3 (apply RK.val rfl;· intro σ W hb hc ⟨hd,hu⟩;simp at hd hu;go_simp;exact rfl)
    apply RK.callV rfl
    · intro σ W hb hc ⟨hd,hu⟩;simp at hd hu;go_simp;exact ⟨rfl,rfl⟩
    · intro W hb hc;exact aL.out W hb
    iterate 2 (apply RK.val rfl;· intro σ W hb hc ⟨hd,hu⟩;simp at hd hu;go_simp;exact rfl)
    iterate 2 (apply RK.valW;· intro σ W hb hc ⟨hd,hu⟩;simp at hd hu;refine ⟨by simp [Region.wanted,yielded, *],?_⟩;go_simp;exact rfl)
    apply RK.callW
    · intro σ W hb hc ⟨hd,hu⟩;simp at hd hu;refine ⟨by simp [Region.wanted,yielded, *],?_⟩;go_simp;exact ⟨rfl,rfl⟩
    · intro W hb hc;exact aQ.out W hb
    iterate 2 (apply RK.val rfl;· intro σ W hb hc ⟨hd,hu⟩;simp at hd hu;go_simp;exact rfl)
    intro σ W hb _;simp only [Jm,Bv,By,Nat.reduceAdd];intro hF;obtain ⟨-,-,-,-,-,-,-,-,-,-,aM,-⟩:=hF;have HB:=hid (S.out.go hb).b;simp only [aM];clear hb aM;go_wp2;go_ret;exact ⟨rfl,HB.out⟩
theorem QgT (s:St) (m:Ms) (v mv:Value) (N:Nat) (w:World) (d:QL w) (j:Qi w) (hN:N≤w.heap.size) (hv:StV w N v s) (hm:MsV w N mv m) (hf:s.fits) (b:m.fitsR) :
    Calls prog 3 #[v,mv] w fun e w'=>e=.returned (.bool true)∧Bd w w':=by
  obtain ⟨o,c,rfl,hm⟩:=hm;obtain ⟨z,hz⟩:=Qph s m;exact QgU s m o c v N w z hv hm hN hf b.1 b.2 j d hz
theorem Qv8 : prog.globalNamed "internal/strconv.uint64pow10" = some 2 := by kernel_rfl
theorem QrG:(prog.globals[2]?).map (·.type)=some 328:=by kernel_rfl
theorem Qrc:prog.cellsOf 328=20:=by kernel_rfl
theorem Qrf:prog.cellsOf 47=1:=by kernel_rfl
theorem Qsw:(Rows.laid_internal_strconv_uint64pow10:DataW Unit)=Lib.tabData .u64 Lib.pow10Tab:=by kernel_rfl
def QgI (w:World) (g:Nat) (cs:Array Value):World :=
  { w with heap:=w.heap.modify g fun
      | .cells _ t frozen=>.cells cs t frozen
      | o=>o }
def Qon (w:World):World:=QgI (QgI (QgI w 3 #[.int .u8 0,.int .u8 1,.int .u8 28,.int .u8 2,.int .u8 29,.int .u8 14,.int .u8 24,.int .u8 3,.int .u8 30,.int .u8 22,.int .u8 20,.int .u8 15,.int .u8 25,.int .u8 17,.int .u8 4,.int .u8 8,.int .u8 31,.int .u8 27,.int .u8 13,.int .u8 23,.int .u8 21,.int .u8 19,.int .u8 16,.int .u8 7,.int .u8 26,.int .u8 12,.int .u8 18,.int .u8 6,.int .u8 11,.int .u8 5,.int .u8 10,.int .u8 9]) 4 #[.int .u8 0,.int .u8 1,.int .u8 56,.int .u8 2,.int .u8 57,.int .u8 49,.int .u8 28,.int .u8 3,.int .u8 61,.int .u8 58,.int .u8 42,.int .u8 50,.int .u8 38,.int .u8 29,.int .u8 17,.int .u8 4,.int .u8 62,.int .u8 47,.int .u8 59,.int .u8 36,.int .u8 45,.int .u8 43,.int .u8 51,.int .u8 22,.int .u8 53,.int .u8 39,.int .u8 33,.int .u8 30,.int .u8 24,.int .u8 18,.int .u8 12,.int .u8 5,.int .u8 63,.int .u8 55,.int .u8 48,.int .u8 27,.int .u8 60,.int .u8 41,.int .u8 37,.int .u8 16,.int .u8 46,.int .u8 35,.int .u8 44,.int .u8 21,.int .u8 52,.int .u8 32,.int .u8 23,.int .u8 11,.int .u8 54,.int .u8 26,.int .u8 40,.int .u8 15,.int .u8 34,.int .u8 20,.int .u8 31,.int .u8 10,.int .u8 25,.int .u8 14,.int .u8 19,.int .u8 9,.int .u8 13,.int .u8 8,.int .u8 7,.int .u8 6]) 2 #[.int .u64 1,.int .u64 10,.int .u64 100,.int .u64 1000,.int .u64 10000,.int .u64 100000,.int .u64 1000000,.int .u64 10000000,.int .u64 100000000,.int .u64 1000000000,.int .u64 10000000000,.int .u64 100000000000,.int .u64 1000000000000,.int .u64 10000000000000,.int .u64 100000000000000,.int .u64 1000000000000000,.int .u64 10000000000000000,.int .u64 100000000000000000,.int .u64 1000000000000000000,.int .u64 10000000000000000000]
def Qhe:List Int:=[1116352408,1899447441,3049323471,3921009573,961987163,1508970993,2453635748,2870763221,3624381080,310598401,607225278,1426881987,1925078388,2162078206,2614888103,3248222580,3835390401,4022224774,264347078,604807628,770255983,1249150122,1555081692,1996064986,2554220882,2821834349,2952996808,3210313671,3336571891,3584528711,113926993,338241895,666307205,773529912,1294757372,1396182291,1695183700,1986661051,2177026350,2456956037,2730485921,2820302411,3259730800,3345764771,3516065817,3600352804,4094571909,275423344,430227734,506948616,659060556,883997877,958139571,1322822218,1537002063,1747873779,1955562222,2024104815,2227730452,2361852424,2428436474,2756734187,3204031479,3329325298]
theorem QvL : prog.globalNamed "landbridge/sha.cubes" = some 1 := by kernel_rfl
theorem QrH:(prog.globals[1]?).map (·.type)=some 295:=by kernel_rfl
theorem Qre:prog.cellsOf 295=64:=by kernel_rfl
theorem Qpn:prog.cellsOf 226=1:=by kernel_rfl
theorem QtR:∀ t,t<64→Qhe.getD t 0=u (QpQ.getD t 0):=by decide +kernel
theorem Qrt:(Rows.laid_landbridge_sha_cubes:DataW Unit)=Lib.tabData .u32 Qhe:=by kernel_rfl
theorem Qql {W : World} {a b d : String × DataW Unit} (h : laidMet prog [a, b, ("internal/strconv.uint64pow10", Rows.laid_internal_strconv_uint64pow10), d] W) : QL W := by
  rw [Qsw] at h;obtain ⟨_,⟨_,_,_,_,_,_,_,_,_,_,⟨_,_,_,_,_,_,_,_,_,_,⟨g',t',cs,fuel,p,q,j,m,e,hd,_,_⟩,_⟩,_⟩,_⟩:=h;obtain rfl:=Bu (Qv8.symm.trans j);obtain rfl:=Bu (QrG.symm.trans m);unfold QL Lib.TabIs;rw [e,← Lib.cells_of_tab underlying328 underlying47 Qrf Qrc hd]
theorem QmB {W : World} {a b c : String × DataW Unit} (h : laidMet prog [a, b, c, ("landbridge/sha.cubes", Rows.laid_landbridge_sha_cubes)] W) : Qi W := by
  rw [Qrt] at h;obtain ⟨_,⟨_,_,_,_,_,_,_,_,_,_,⟨_,_,_,_,_,_,_,_,_,_,⟨_,_,_,_,_,_,_,_,_,_,⟨g',t',cs,fuel,p,q,j,m,e,hd,_,_⟩,_⟩,_⟩,_⟩,_⟩:=h;obtain rfl:=Bu (QvL.symm.trans j);obtain rfl:=Bu (QrH.symm.trans m)
  have ht : Lib.TabIs prog W "landbridge/sha.cubes" .u32 Qhe := by
    unfold Lib.TabIs;rw [e,← Lib.cells_of_tab underlying295 underlying226 Qpn Qre hd]
  intro t d;rw [ht.cell QvL t d,QtR t d]
def Qdj (w:World):World:=QgI (Qon w) 1 #[.int .u32 1116352408,.int .u32 1899447441,.int .u32 3049323471,.int .u32 3921009573,.int .u32 961987163,.int .u32 1508970993,.int .u32 2453635748,.int .u32 2870763221,.int .u32 3624381080,.int .u32 310598401,.int .u32 607225278,.int .u32 1426881987,.int .u32 1925078388,.int .u32 2162078206,.int .u32 2614888103,.int .u32 3248222580,.int .u32 3835390401,.int .u32 4022224774,.int .u32 264347078,.int .u32 604807628,.int .u32 770255983,.int .u32 1249150122,.int .u32 1555081692,.int .u32 1996064986,.int .u32 2554220882,.int .u32 2821834349,.int .u32 2952996808,.int .u32 3210313671,.int .u32 3336571891,.int .u32 3584528711,.int .u32 113926993,.int .u32 338241895,.int .u32 666307205,.int .u32 773529912,.int .u32 1294757372,.int .u32 1396182291,.int .u32 1695183700,.int .u32 1986661051,.int .u32 2177026350,.int .u32 2456956037,.int .u32 2730485921,.int .u32 2820302411,.int .u32 3259730800,.int .u32 3345764771,.int .u32 3516065817,.int .u32 3600352804,.int .u32 4094571909,.int .u32 275423344,.int .u32 430227734,.int .u32 506948616,.int .u32 659060556,.int .u32 883997877,.int .u32 958139571,.int .u32 1322822218,.int .u32 1537002063,.int .u32 1747873779,.int .u32 1955562222,.int .u32 2024104815,.int .u32 2227730452,.int .u32 2361852424,.int .u32 2428436474,.int .u32 2756734187,.int .u32 3204031479,.int .u32 3329325298]
end Go.Proofs.YtnedafiokmjkkaaGreatDoor
namespace Go.Proofs.YtnedafiokmjkkaaGreatDoor.appRefused
open Go.Proofs.Tryz
set_option maxRecDepth 1000000
set_option maxHeartbeats 8000000
open Go.ChangeShapes Go.WideShapes Go.ChangeAt Go.RowKit
theorem own:ownKnob prog.godebug=none:=by kernel_rfl
theorem QoI:laidOutB prog=true:=by kernel_rfl
theorem Qro (H:Type) (enc:TypeId×Value→H) (W:World) (base:Nat) (b:Array Value) (ds gs:List (DataW H)) (A:List MemPlace)
    (z:∀ (j:Nat) t v,Tryz.f3.params[j]?=some t→b[j]?=some v→Value.okWide prog W .any base t v)
    (hW:DataW.Whole enc prog Tryz.f3.params.toList Rows.appRefusedSpec.vars false W b.toList ds gs A)
    (d:(DataW.weightsEach prog (Tryz.f3.params.toList ++ (OpenSpec.ofChange Rows.appRefusedSpec).bare.plain.varTypes prog) (ds ++ gs)).all (·≤reachBytes)=true)
    (hL:laidMetH prog Rows.appRefusedRow.laid W) :
    Calls prog 3 b W fun e W'=>∃ v,e=.returned v∧Rows.appRefusedSpec.post enc prog Tryz.f3 false true false false W b v W':=by
  have L:Qi W:=QmB hL;have I:QL W:=Qql hL;have M:=hW;obtain ⟨p,q,D,hV,rfl,hfz,hnd⟩:=hW;have hA:DataW.TrodAll enc prog W 0 (fun _=>true) true Tryz.f3.params.toList b.toList ds p:=D
  rw [params3] at hA z d;obtain ⟨v0,vs0,d0,ds0,p0,q0,hargs0,rfl,rfl,h0,r0⟩:=trodAll_cons hA;obtain ⟨v1,vs1,d1,ds1,p1,q1,C,rfl,rfl,h1,r1⟩:=trodAll_cons r0;subst C;obtain ⟨rfl,rfl,rfl⟩:=trodAll_nil r1;obtain rfl:b=#[v0,v1]:=by cases b;simp_all
  obtain ⟨rfl,rfl⟩:=trodVars_none hV;have k0:=h0;have aA:∀ x∈p0,x.block<W.heap.size:=by obtain ⟨m,hm⟩:=k0;exact DataW.trod_lt m _ _ _ hm
  have T:∀ y∈d0.weights prog 28,y≤reachBytes:=fun y hy=>by
    have:=List.all_eq_true.1 d _ (DataW.weights_mem_each (j:=0) (t:=28) rfl rfl y hy);simpa using this
  obtain ⟨g0,O,E⟩:=Qn8 (z 0 28 v0 rfl rfl) h0 T;have k1:=h1;have aB:∀ x∈p1,x.block<W.heap.size:=by obtain ⟨m,hm⟩:=k1;exact DataW.trod_lt m _ _ _ hm
  have Y:∀ y∈d1.weights prog 53,y≤reachBytes:=fun y hy=>by
    have:=List.all_eq_true.1 d _ (DataW.weights_mem_each (j:=1) (t:=53) rfl rfl y hy);simpa using this
  obtain ⟨g1,S,G⟩:=Qsd (z 1 53 v1 rfl rfl) h1 Y;clear D;refine (QgT g0 g1 v0 v1 W.heap.size W I L (Nat.le_refl _) O S E G).mono fun e W' ⟨he,bel⟩=>?_
  subst he;exact ⟨_,rfl,_,_,_,[],_,[],M,trodAll_mk1 (shut_bool underlying4 _),(trodAll_cons_mk (Below.trod QoI (by kernel_rfl) (of_decide_eq_true (by kernel_rfl)) k0 bel aA) (trodAll_cons_mk (Below.trod QoI (by kernel_rfl) (of_decide_eq_true (by kernel_rfl)) k1 bel aB) trodAll_mk0)),rfl,bel.frame _,fun h=>by cases h⟩
theorem QrW (os:Os):laidMet prog Rows.appRefusedRow.laid ((Qdj (World.holding prog os ⟨#[],#[],[]⟩)).forCall (fun _ _=>0) ⟨#[],#[.agg #[.string ⟨#[]⟩,.int .i64 0,.int .i64 0,.slice none 0 0,.slice none 0 0,.slice none 0 0,.slice none 0 0,.slice none 0 0,.slice none 0 0,.slice none 0 0],.agg (msC msZ (fun _=>none) (fun _=>0)).toArray],[]⟩).memory :=
  laidMet_of_run' 8 (by kernel_rfl) (by kernel_rfl)
theorem QbR (os:Os) {H:Type} (enc:TypeId×Value→H):∃ b,DataW.whole enc prog ((Qdj (World.holding prog os ⟨#[],#[],[]⟩)).forCall (fun _ _=>0) ⟨#[],#[.agg #[.string ⟨#[]⟩,.int .i64 0,.int .i64 0,.slice none 0 0,.slice none 0 0,.slice none 0 0,.slice none 0 0,.slice none 0 0,.slice none 0 0,.slice none 0 0],.agg (msC msZ (fun _=>none) (fun _=>0)).toArray],[]⟩).memory Tryz.f3.params.toList Rows.appRefusedSpec.vars false #[Value.agg #[.string ⟨#[]⟩,.int .i64 0,.int .i64 0,.slice none 0 0,.slice none 0 0,.slice none 0 0,.slice none 0 0,.slice none 0 0,.slice none 0 0,.slice none 0 0],Value.agg (msC msZ (fun _=>none) (fun _=>0)).toArray].toList 8=some ([.agg [.lit (.string []),.lit (.int .i64 0),.lit (.int .i64 0),.nil,.nil,.nil,.nil,.nil,.nil,.nil],.agg [.lit (.int .i64 0),.lit (.string []),.lit (.int .i64 0),.agg [.lit (.int .i64 0),.lit (.int .i64 0),.nil,.nil],.lit (.int .i64 0),.agg [.lit (.int .i64 0),.agg [.agg [.lit (.string []),.lit (.int .i64 0),.lit (.int .i64 0),.nil,.nil,.nil],.nil,.nil],.nil],.agg [.lit (.int .i64 0),.agg [.agg [.lit (.string []),.lit (.int .i64 0),.lit (.int .i64 0),.nil,.nil,.nil],.nil,.nil],.nil],.lit (.int .i64 0),.lit (.int .i64 0),.lit (.int .i64 0),.lit (.bool false),.agg [.lit (.int .i64 0),.agg [.lit (.int .i64 0),.lit (.int .i64 0),.nil,.nil,.nil],.agg [.lit (.bool false),.lit (.bool false),.agg [.lit (.int .i64 0),.lit (.int .i64 0),.nil,.nil,.nil],.agg [.lit (.int .i64 0),.lit (.int .i64 0),.nil,.nil,.nil]]],.agg [.lit (.string []),.lit (.int .u64 0),.lit (.string []),.lit (.string [])],.lit (.int .i64 0),.lit (.int .i64 0),.agg [.lit (.int .i64 0),.lit (.int .i64 0),.lit (.int .i64 0),.nil,.lit (.int .i64 0)],.nil]],[],b) :=
  ⟨[],by kernel_rfl⟩
theorem Qu7 (os:Os) (b:os.Started) (H:Type) (enc:TypeId×Value→H) (F:Stop.Interp) :
    ReturnsInHanded {} checked os 3 .any ((OpenSpec.ofChange Rows.appRefusedSpec).preRow enc prog Tryz.f3 Rows.appRefusedRow.domain false Rows.appRefusedRow.laid) (((OpenSpec.ofChange Rows.appRefusedSpec).at F).post enc prog Tryz.f3 false true false false):=by
  obtain ⟨places,hx⟩:=QbR os enc
  refine returnsInHanded_of_row (C:=checked) (s:=OpenSpec.ofChange Rows.appRefusedSpec) own b (by kernel_rfl) func3
    (witness_row_at (enc:=enc) (C:=checked) false (Qdj (World.holding prog os ⟨#[],#[],[]⟩)) #[.agg #[.string ⟨#[]⟩,.int .i64 0,.int .i64 0,.slice none 0 0,.slice none 0 0,.slice none 0 0,.slice none 0 0,.slice none 0 0,.slice none 0 0,.slice none 0 0],.agg (msC msZ (fun _=>none) (fun _=>0)).toArray] rfl (by kernel_rfl) (by kernel_rfl) (by kernel_rfl)
      (OpenSpec.preRow_of_cond 8 hx (by kernel_rfl) (fun k hk=>by cases hk) (by kernel_rfl) (QrW os))) ?_
  intro W base e ds gs d j hW _ _ m hL _ _;exact Qro H enc W base e ds gs d j hW m hL
theorem Zl {a b:Bool} (ha:a=true) (hb:b=true):(a && b)=true:=by rw [ha,hb];rfl
theorem Qv4:(Rows.appRefusedRow.inPlace == prog.inPlace 3)=true:=by kernel_rfl
theorem Qv5:(Rows.appRefusedRow.unfollowed == prog.unfollowed 3)=true:=by kernel_rfl
theorem Qv6:(Rows.appRefusedRow.recurses == prog.recurses 3)=true:=by kernel_rfl
theorem Qv7:(Rows.appRefusedRow.named == prog.varsNamed 3)=true:=by kernel_rfl
theorem closed:joinedFacts prog 3 Tryz.f3 (OpenSpec.ofChange Rows.appRefusedSpec).bare Rows.appRefusedRow=true:=by
  unfold joinedFacts;refine Zl (Zl (Zl (Zl (Zl (Zl (Zl (Zl (Zl (Zl (Zl (Zl (Zl (Zl (Zl (Zl (Zl (Zl (Zl (Zl (Zl (Zl (Zl (Zl (Zl (Zl (Zl (Zl (Zl (Zl (Zl ?_ ?_) ?_) ?_) ?_) ?_) ?_) ?_) ?_) Qv4) Qv5) Qv6) Qv7) ?_) ?_) ?_) ?_) ?_) ?_) ?_) ?_) ?_) ?_) ?_) ?_) ?_) ?_) ?_) ?_) ?_) ?_) ?_
  all_goals as_aux_lemma=>kernel_rfl
theorem Qu4:prog.funcNamed Rows.appRefusedRow.func=some 3:=by kernel_rfl
theorem QvM:Tryz.f3.isInstance prog Rows.appRefusedRow.origin Rows.appRefusedRow.targs:=of_decide_eq_true (by kernel_rfl)
theorem said:Rows.AppRefusedSaid :=
  OpenClaim.holds_of_cond 3 Tryz.f3 rfl rfl rfl rfl rfl rfl rfl ⟨rfl,rfl,rfl,rfl,rfl⟩ rfl rfl rfl rfl rfl Qu4 func3 closed
    QvM (by unfold Func.isWrapper;first | (rw [if_pos (by decide +kernel)];kernel_rfl) | (rw [if_neg (by decide +kernel)];exact ⟨rfl,rfl⟩))
    (fun os b H enc _ F=>by rw [OpenClaim.pre_eq_preRow];exact Qu7 os b H enc F)
theorem plain (f : FuncId) (fn : Func) (hf : Tryz.pinned.checked.prog.funcNamed "landbridge/landlaw13.AppRefused" = some f) (b : Tryz.pinned.checked.prog.funcs[f]? = some fn) :
    false=Tryz.pinned.checked.prog.looks []∧∀ (j:Nat) t,fn.params[j]?=some t→Tryz.pinned.checked.prog.wantsStandIn t=false:=by
  obtain rfl : f = 3 := Option.some.inj ((show prog.funcNamed "landbridge/landlaw13.AppRefused" = some 3 by kernel_rfl).symm.trans hf) |>.symm
  obtain rfl:fn=Tryz.f3:=(Option.some.inj (func3.symm.trans b)).symm;refine ⟨by kernel_rfl,fun j t ht=>?_⟩
  rw [params3] at ht;have hm:t=28∨t=53:=by simpa using Array.mem_of_getElem? ht
  rcases hm with rfl | rfl
  · exact (show prog.wantsStandIn 28=false by kernel_rfl)
  · exact (show prog.wantsStandIn 53=false by kernel_rfl)
end Go.Proofs.YtnedafiokmjkkaaGreatDoor.appRefused
namespace Go.Proofs.YtnedafiokmjkkaaGreatDoor
open Go.Proofs.Tryz
set_option maxRecDepth 1000000
set_option maxHeartbeats 8000000
theorem appRefused_card:Rows.AppRefusedCardSaid :=
  Claim7.holds_tied_plain_at .later [] _ _ _ _ appRefused.said (fun _ h=>by cases h) (by kernel_rfl) (fun _ h=>by cases h) appRefused_row_tie rfl ⟨rfl,rfl⟩ (by kernel_rfl) rfl appRefused.plain (by kernel_rfl)
end Go.Proofs.YtnedafiokmjkkaaGreatDoor
