/-
  What package state's rising answers, and what it answers with: whether each entry is right, and greater than the one ahead. What oneByOne answers over it.
-/
import Derived.Test.YtbgdpfeobklnhaaGreatDoorcvStMem
import Derived.Test.YtbgdpfeobklnhaaGreatDoorcvRegions
import Derived.Test.YtbgdpfeobklnhaaGreatDoorcvStShelf
import Derived.Deep.RegionHeld3
import Derived.Deep.RegionWith
namespace Go.Proofs.YtbgdpfeobklnhaaGreatDoor
set_option maxRecDepth 1000000
set_option maxHeartbeats 8000000
open Go.RowKit
theorem QP (lo n:Int) (w:World):Calls Tryz.prog 33 #[.int .i64 lo,.int .i64 n] w fun e w'=>e=.returned (.bool (Qn lo n))∧w'=w:=by
 unfold Qn
 by_cases h1:lo≤n
 ·have e1:decide (lo≤n)=true:=by simpa using h1
  go_enter Tryz.func33,Tryz.ntmps33
  go_wp2
  go_ret
  exact ⟨by simp [e1];first | done | rfl,rfl⟩
 ·have e1:decide (lo≤n)=false:=by simpa using h1
  go_enter Tryz.func33,Tryz.ntmps33
  go_wp2
  go_ret
  exact ⟨by simp;first | done | rfl | (simp [e1];first | done | rfl),rfl⟩
theorem Qag (s:ByteArray) (w:World):Calls Tryz.prog 76 #[.string s] w fun e w'=>e=.returned (.bool (QbR s))∧w'=w:=by
 unfold QbR
 by_cases h1:1≤s.size
 ·have e1:decide ((1:Int)≤(s.size:Int))=true:=by simp;omega
  have e1':decide (1≤s.size)=true:=by simpa using h1
  by_cases h2:s.size≤40
  ·have e2:decide ((s.size:Int)≤40)=true:=by simp;omega
   have e2':decide (s.size≤40)=true:=by simpa using h2
   clear h1 h2
   go_enter Tryz.func76,Tryz.ntmps76
   go_wp2
   go_ret
   exact ⟨by rw [e1',e2'];first | done | rfl,rfl⟩
  ·have e2:decide ((s.size:Int)≤40)=false:=by simp;omega
   have e2':decide (s.size≤40)=false:=by simpa using h2
   clear h1 h2
   go_enter Tryz.func76,Tryz.ntmps76
   go_wp2
   go_ret
   exact ⟨by rw [e1',e2'];first | done | rfl,rfl⟩
 ·have e1:decide ((1:Int)≤(s.size:Int))=false:=by simp;omega
  have e1':decide (1≤s.size)=false:=by simpa using h1
  clear h1
  go_enter Tryz.func76,Tryz.ntmps76
  go_wp2
  go_ret
  exact ⟨by rw [e1'];first | done | rfl,rfl⟩
theorem QdN (c:Cn) (w:World) :
  Calls Tryz.prog 45 #[.agg #[.int .i64 c.state,.int .i64 c.client,.int .i64 c.oclient,.int .i64 c.oconn]] w fun e w'=>e=.returned (.int .i64 (Qo c))∧Below w.heap.size w w':=by
 obtain ⟨w0,hw0⟩:∃ w0,w.alloc (.cells #[.int .i64 c.state,.int .i64 c.client,.int .i64 c.oclient,.int .i64 c.oconn] 60)=w0:=⟨_,rfl⟩
 have HB0:=hid (show Below w.heap.size w w0 by rw [← hw0];exact (Below.refl _ _).alloc (Nat.le_refl _) _)
 have hr0:=(show Row w0 w.heap.size 60 [.int .i64 c.state,.int .i64 c.client,.int .i64 c.oclient,.int .i64 c.oconn] by rw [← hw0];exact Row.new _ _ _)
 have k0:=hr0.cell 0
 have k1:=hr0.cell 1
 have k2:=hr0.cell 2
 have k3:=hr0.cell 3
 clear hr0
 by_cases q0:c.state<1
 ·have e0:decide (c.state<1)=true:=by simp;omega
  have HW:=hid (show Qo c=1 by unfold Qo;simp [*])
  clear q0
  go_enter Tryz.func45,Tryz.ntmps45
  go_wp2
  go_ret
  exact ⟨by rw [HW.out];first | done | rfl,HB0.out⟩
 ·have e0:decide (c.state<1)=false:=by simp;omega
  by_cases q1:3<c.state
  ·have e1:decide (3<c.state)=true:=by simp;omega
   have HW:=hid (show Qo c=1 by unfold Qo;simp [*])
   clear q0 q1
   go_enter Tryz.func45,Tryz.ntmps45
   go_wp2
   go_ret
   exact ⟨by rw [HW.out];first | done | rfl,HB0.out⟩
  ·have e1:decide (3<c.state)=false:=by simp;omega
   cases q2:Qn 0 c.client with
   | false =>
    have H2:=hid q2
    have HW:=hid (show Qo c=3 by unfold Qo;simp [*])
    clear q0 q1 q2
    go_enter Tryz.func45,Tryz.ntmps45
    go_wp2_with (first | (go_at_call 33;refine (QP _ _ _).mono ?_;rintro e w' ⟨rfl,rfl⟩;first | rw [H2.out]))
    go_ret
    exact ⟨by rw [HW.out];first | done | rfl,HB0.out⟩
   | true =>
    have H2:=hid q2
    cases q3:Qn 0 c.oclient with
    | false =>
     have H3:=hid q3
     have HW:=hid (show Qo c=3 by unfold Qo;simp [*])
     clear q0 q1 q2 q3
     go_enter Tryz.func45,Tryz.ntmps45
     go_wp2_with (first | (go_at_call 33;refine (QP _ _ _).mono ?_;rintro e w' ⟨rfl,rfl⟩;first | rw [H2.out] | rw [H3.out]))
     go_ret
     exact ⟨by rw [HW.out];first | done | rfl,HB0.out⟩
    | true =>
     have H3:=hid q3
     cases q4:Qn (-1) c.oconn with
     | false =>
      have H4:=hid q4
      have HW:=hid (show Qo c=3 by unfold Qo;simp [*])
      clear q0 q1 q2 q3 q4
      go_enter Tryz.func45,Tryz.ntmps45
      go_wp2_with (first | (go_at_call 33;refine (QP _ _ _).mono ?_;rintro e w' ⟨rfl,rfl⟩;first | rw [H2.out] | rw [H3.out] | rw [H4.out]))
      go_ret
      exact ⟨by rw [HW.out];first | done | rfl,HB0.out⟩
     | true =>
      have H4:=hid q4
      have HW:=hid (show Qo c=0 by unfold Qo;simp [*])
      clear q0 q1 q2 q3 q4
      go_enter Tryz.func45,Tryz.ntmps45
      go_wp2_with (first | (go_at_call 33;refine (QP _ _ _).mono ?_;rintro e w' ⟨rfl,rfl⟩;first | rw [H2.out] | rw [H3.out] | rw [H4.out]))
      go_ret
      exact ⟨by rw [HW.out];first | done | rfl,HB0.out⟩
theorem QdM (c:Ch) (w:World) :
  Calls Tryz.prog 47 #[.agg #[.int .i64 c.state,.bool c.ordered,.int .i64 c.conn,.int .i64 c.ochan,.int .i64 c.send,.int .i64 c.recv,.int .i64 c.ack]] w fun e w'=>e=.returned (.int .i64 (Qm c))∧Below w.heap.size w w':=by
 obtain ⟨w0,hw0⟩:∃ w0,w.alloc (.cells #[.int .i64 c.state,.bool c.ordered,.int .i64 c.conn,.int .i64 c.ochan,.int .i64 c.send,.int .i64 c.recv,.int .i64 c.ack] 54)=w0:=⟨_,rfl⟩
 have HB0:=hid (show Below w.heap.size w w0 by rw [← hw0];exact (Below.refl _ _).alloc (Nat.le_refl _) _)
 have hr0:=(show Row w0 w.heap.size 54 [.int .i64 c.state,.bool c.ordered,.int .i64 c.conn,.int .i64 c.ochan,.int .i64 c.send,.int .i64 c.recv,.int .i64 c.ack] by rw [← hw0];exact Row.new _ _ _)
 have k0:=hr0.cell 0
 have k1:=hr0.cell 1
 have k2:=hr0.cell 2
 have k3:=hr0.cell 3
 have k4:=hr0.cell 4
 have k5:=hr0.cell 5
 have k6:=hr0.cell 6
 clear hr0
 by_cases q0:c.state<1
 ·have e0:decide (c.state<1)=true:=by simp;omega
  have HW:=hid (show Qm c=1 by unfold Qm;simp [*])
  clear q0
  go_enter Tryz.func47,Tryz.ntmps47
  go_wp2
  go_ret
  exact ⟨by rw [HW.out];first | done | rfl,HB0.out⟩
 ·have e0:decide (c.state<1)=false:=by simp;omega
  by_cases q1:4<c.state
  ·have e1:decide (4<c.state)=true:=by simp;omega
   have HW:=hid (show Qm c=1 by unfold Qm;simp [*])
   clear q0 q1
   go_enter Tryz.func47,Tryz.ntmps47
   go_wp2
   go_ret
   exact ⟨by rw [HW.out];first | done | rfl,HB0.out⟩
  ·have e1:decide (4<c.state)=false:=by simp;omega
   cases q2:Qn 0 c.conn with
   | false =>
    have H2:=hid q2
    have HW:=hid (show Qm c=3 by unfold Qm;simp [*])
    clear q0 q1 q2
    go_enter Tryz.func47,Tryz.ntmps47
    go_wp2_with (first | (go_at_call 33;refine (QP _ _ _).mono ?_;rintro e w' ⟨rfl,rfl⟩;first | rw [H2.out]))
    go_ret
    exact ⟨by rw [HW.out];first | done | rfl,HB0.out⟩
   | true =>
    have H2:=hid q2
    cases q3:Qn (-1) c.ochan with
    | false =>
     have H3:=hid q3
     have HW:=hid (show Qm c=3 by unfold Qm;simp [*])
     clear q0 q1 q2 q3
     go_enter Tryz.func47,Tryz.ntmps47
     go_wp2_with (first | (go_at_call 33;refine (QP _ _ _).mono ?_;rintro e w' ⟨rfl,rfl⟩;first | rw [H2.out] | rw [H3.out]))
     go_ret
     exact ⟨by rw [HW.out];first | done | rfl,HB0.out⟩
    | true =>
     have H3:=hid q3
     cases q4:Qn 1 c.send with
     | false =>
      have H4:=hid q4
      have HW:=hid (show Qm c=3 by unfold Qm;simp [*])
      clear q0 q1 q2 q3 q4
      go_enter Tryz.func47,Tryz.ntmps47
      go_wp2_with (first | (go_at_call 33;refine (QP _ _ _).mono ?_;rintro e w' ⟨rfl,rfl⟩;first | rw [H2.out] | rw [H3.out] | rw [H4.out]))
      go_ret
      exact ⟨by rw [HW.out];first | done | rfl,HB0.out⟩
     | true =>
      have H4:=hid q4
      cases q5:Qn 1 c.recv with
      | false =>
       have H5:=hid q5
       have HW:=hid (show Qm c=3 by unfold Qm;simp [*])
       clear q0 q1 q2 q3 q4 q5
       go_enter Tryz.func47,Tryz.ntmps47
       go_wp2_with (first | (go_at_call 33;refine (QP _ _ _).mono ?_;rintro e w' ⟨rfl,rfl⟩;first | rw [H2.out] | rw [H3.out] | rw [H4.out] | rw [H5.out]))
       go_ret
       exact ⟨by rw [HW.out];first | done | rfl,HB0.out⟩
      | true =>
       have H5:=hid q5
       cases q6:Qn 1 c.ack with
       | false =>
        have H6:=hid q6
        have HW:=hid (show Qm c=3 by unfold Qm;simp [*])
        clear q0 q1 q2 q3 q4 q5 q6
        go_enter Tryz.func47,Tryz.ntmps47
        go_wp2_with (first | (go_at_call 33;refine (QP _ _ _).mono ?_;rintro e w' ⟨rfl,rfl⟩;first | rw [H2.out] | rw [H3.out] | rw [H4.out] | rw [H5.out] | rw [H6.out]))
        go_ret
        exact ⟨by rw [HW.out];first | done | rfl,HB0.out⟩
       | true =>
        have H6:=hid q6
        have HW:=hid (show Qm c=0 by unfold Qm;simp [*])
        clear q0 q1 q2 q3 q4 q5 q6
        go_enter Tryz.func47,Tryz.ntmps47
        go_wp2_with (first | (go_at_call 33;refine (QP _ _ _).mono ?_;rintro e w' ⟨rfl,rfl⟩;first | rw [H2.out] | rw [H3.out] | rw [H4.out] | rw [H5.out] | rw [H6.out]))
        go_ret
        exact ⟨by rw [HW.out];first | done | rfl,HB0.out⟩
theorem QdO (m:Mk) (od:Option Addr) (cd:Nat) (w:World) :
  Calls Tryz.prog 50 #[.agg #[.int .i64 m.chan,.int .i64 m.seq,.slice od m.dig.length cd]] w fun e w'=>e=.returned (.int .i64 (Qw m))∧Below w.heap.size w w':=by
 obtain ⟨w0,hw0⟩:∃ w0,w.alloc (.cells #[.int .i64 m.chan,.int .i64 m.seq,.slice od m.dig.length cd] 93)=w0:=⟨_,rfl⟩
 have HB0:=hid (show Below w.heap.size w w0 by rw [← hw0];exact (Below.refl _ _).alloc (Nat.le_refl _) _)
 have hr0:=(show Row w0 w.heap.size 93 [.int .i64 m.chan,.int .i64 m.seq,.slice od m.dig.length cd] by rw [← hw0];exact Row.new _ _ _)
 have k0:=hr0.cell 0
 have k1:=hr0.cell 1
 have k2:=hr0.cell 2
 clear hr0
 cases q0:Qn 0 m.chan with
 | false =>
  have H0:=hid q0
  have HW:=hid (show Qw m=3 by unfold Qw;simp [*])
  clear q0
  go_enter Tryz.func50,Tryz.ntmps50
  go_wp2_with (first | (go_at_call 33;refine (QP _ _ _).mono ?_;rintro e w' ⟨rfl,rfl⟩;first | rw [H0.out]))
  go_ret
  exact ⟨by rw [HW.out];first | done | rfl,HB0.out⟩
 | true =>
  have H0:=hid q0
  cases q1:Qn 1 m.seq with
  | false =>
   have H1:=hid q1
   have HW:=hid (show Qw m=3 by unfold Qw;simp [*])
   clear q0 q1
   go_enter Tryz.func50,Tryz.ntmps50
   go_wp2_with (first | (go_at_call 33;refine (QP _ _ _).mono ?_;rintro e w' ⟨rfl,rfl⟩;first | rw [H0.out] | rw [H1.out]))
   go_ret
   exact ⟨by rw [HW.out];first | done | rfl,HB0.out⟩
  | true =>
   have H1:=hid q1
   by_cases q2:m.dig.length≠32
   ·have e2:((m.dig.length:Int) != 32)=true:=by simp;omega
    have HW:=hid (show Qw m=2 by unfold Qw;simp [*])
    clear q0 q1 q2
    go_enter Tryz.func50,Tryz.ntmps50
    go_wp2_with (first | (go_at_call 33;refine (QP _ _ _).mono ?_;rintro e w' ⟨rfl,rfl⟩;first | rw [H0.out] | rw [H1.out]))
    go_ret
    exact ⟨by rw [HW.out];first | done | rfl,HB0.out⟩
   ·have e2:((m.dig.length:Int) != 32)=false:=by simp;omega
    have HW:=hid (show Qw m=0 by unfold Qw;simp [*])
    clear q0 q1 q2
    go_enter Tryz.func50,Tryz.ntmps50
    go_wp2_with (first | (go_at_call 33;refine (QP _ _ _).mono ?_;rintro e w' ⟨rfl,rfl⟩;first | rw [H0.out] | rw [H1.out]))
    go_ret
    exact ⟨by rw [HW.out];first | done | rfl,HB0.out⟩
theorem Qdt (p:Pu) (w:World) :
  Calls Tryz.prog 54 #[.agg #[.string p.owner,.string p.denom,.int .u64 (p.amount:Int)]] w fun e w'=>e=.returned (.int .i64 (QA p))∧Below w.heap.size w w':=by
 obtain ⟨w0,hw0⟩:∃ w0,w.alloc (.cells #[.string p.owner,.string p.denom,.int .u64 (p.amount:Int)] 75)=w0:=⟨_,rfl⟩
 have HB0:=hid (show Below w.heap.size w w0 by rw [← hw0];exact (Below.refl _ _).alloc (Nat.le_refl _) _)
 have hr0:=(show Row w0 w.heap.size 75 [.string p.owner,.string p.denom,.int .u64 (p.amount:Int)] by rw [← hw0];exact Row.new _ _ _)
 have k0:=hr0.cell 0
 have k1:=hr0.cell 1
 have k2:=hr0.cell 2
 clear hr0
 cases q0:QbR p.owner with
 | false =>
  have H0:=hid q0
  have HW:=hid (show QA p=4 by unfold QA;simp [*])
  clear q0
  go_enter Tryz.func54,Tryz.ntmps54
  go_wp2_with (first | (go_at_call 76;refine (Qag _ _).mono ?_;rintro e w' ⟨rfl,rfl⟩;first | rw [H0.out]))
  go_ret
  exact ⟨by rw [HW.out];first | done | rfl,HB0.out⟩
 | true =>
  have H0:=hid q0
  cases q1:QbR p.denom with
  | false =>
   have H1:=hid q1
   have HW:=hid (show QA p=4 by unfold QA;simp [*])
   clear q0 q1
   go_enter Tryz.func54,Tryz.ntmps54
   go_wp2_with (first | (go_at_call 76;refine (Qag _ _).mono ?_;rintro e w' ⟨rfl,rfl⟩;first | rw [H0.out] | rw [H1.out]))
   go_ret
   exact ⟨by rw [HW.out];first | done | rfl,HB0.out⟩
  | true =>
   have H1:=hid q1
   by_cases q2:p.amount=0
   ·have e2:((p.amount:Int) == 0)=true:=by simp;omega
    have HW:=hid (show QA p=3 by unfold QA;simp [*])
    clear q0 q1 q2
    go_enter Tryz.func54,Tryz.ntmps54
    go_wp2_with (first | (go_at_call 76;refine (Qag _ _).mono ?_;rintro e w' ⟨rfl,rfl⟩;first | rw [H0.out] | rw [H1.out]))
    go_ret
    exact ⟨by rw [HW.out];first | done | rfl,HB0.out⟩
   ·have e2:((p.amount:Int) == 0)=false:=by simp;omega
    have HW:=hid (show QA p=0 by unfold QA;simp [*])
    clear q0 q1 q2
    go_enter Tryz.func54,Tryz.ntmps54
    go_wp2_with (first | (go_at_call 76;refine (Qag _ _).mono ?_;rintro e w' ⟨rfl,rfl⟩;first | rw [H0.out] | rw [H1.out]))
    go_ret
    exact ⟨by rw [HW.out];first | done | rfl,HB0.out⟩
def J0 (a b:Int):Int:=if a<b then -1 else if b<a then 1 else 0
theorem Qbh (a:Int) (w:World):Calls Tryz.prog 98 #[.int .i64 a] w fun e w'=>e=.returned (.bool false)∧w'=w:=by
 have e1:(a != a)=false:=by simp
 go_enter Tryz.func98,Tryz.ntmps98
 go_wp2
 go_ret
 exact ⟨by simp;first | done | rfl,rfl⟩
theorem Qbv (a b:Int) (w:World):Calls Tryz.prog 74 #[.int .i64 a,.int .i64 b] w fun e w'=>e=.returned (.int .i64 (J0 a b))∧w'=w:=by
 by_cases h1:a<b
 ·have e1:decide (a<b)=true:=decide_eq_true h1
  have HC:=hid (show J0 a b = -1 by unfold J0;rw [if_pos h1])
  clear h1
  go_enter Tryz.func74,Tryz.ntmps74
  go_wp2_with (go_at_call 98;refine (Qbh _ _).mono ?_;rintro e w' ⟨rfl,hw⟩;obtain rfl:=hw.symm)
  go_ret
  exact ⟨by rw [HC.out];first | done | rfl,rfl⟩
 ·have e1:decide (a<b)=false:=decide_eq_false h1
  by_cases h2:b<a
  ·have e2:decide (b<a)=true:=decide_eq_true h2
   have HC:=hid (show J0 a b=1 by unfold J0;rw [if_neg h1,if_pos h2])
   clear h1 h2
   go_enter Tryz.func74,Tryz.ntmps74
   go_wp2_with (go_at_call 98;refine (Qbh _ _).mono ?_;rintro e w' ⟨rfl,hw⟩;obtain rfl:=hw.symm)
   go_ret
   exact ⟨by rw [HC.out];first | done | rfl,rfl⟩
  ·have e2:decide (b<a)=false:=decide_eq_false h2
   have HC:=hid (show J0 a b=0 by unfold J0;rw [if_neg h1,if_neg h2])
   clear h1 h2
   go_enter Tryz.func74,Tryz.ntmps74
   go_wp2_with (go_at_call 98;refine (Qbh _ _).mono ?_;rintro e w' ⟨rfl,hw⟩;obtain rfl:=hw.symm)
   go_ret
   exact ⟨by rw [HC.out];first | done | rfl,rfl⟩
theorem QiB (l:List Int) (k:Nat) (x:Int) (h:l[k]?=some x):orN (l.drop k)=if x≠0 then x else orN (l.drop (k+1)):=by
 have hk:=(List.getElem?_eq_some_iff.1 h).1
 have e:l.drop k=x :: l.drop (k+1):=by
  rw [List.drop_eq_getElem_cons hk]
  congr 1
  exact (List.getElem?_eq_some_iff.1 h).2
 rw [e,orN]
theorem QgV (l:List Int) (g n:Nat) (T:TypeId) (w:World) (hr:Row w g T (l.map (Value.int .i64))) (hn:n=l.length) (hl:n≤100) :
  Calls Tryz.prog 73 #[.slice (some ⟨g,0,none⟩) n n] w fun e w'=>e=.returned (.int .i64 (orN l))∧w'=w:=by
 have HR:=hid hr
 have HL:=hid hn
 clear hr hn
 go_enter Tryz.func73,Tryz.ntmps73
 go_wp2
 go_loop [5,8] (fun _ i=>∃ k:Nat,k≤n∧i=.int .i64 (k:Int)∧Hid (orN l=orN (l.drop k))) (fun _ i=>n-(intOf i).toNat)
 case atStart=>exact ⟨0,by omega,rfl,hid rfl⟩
 case round =>
  obtain ⟨k,hk,rfl,HT⟩:=hrel
  by_cases hlt:k<n
  ·have hlt':(k:Int)<(n:Int):=by omega
   obtain ⟨x,hx⟩:∃ x,l[k]?=some x:=⟨l[k]'(by rw [← HL.out];exact hlt),List.getElem?_eq_getElem _⟩
   have c0:w.cell? ⟨g,k,none⟩=some (.int .i64 x):=by rw [HR.out.cell,List.getElem?_map,hx];rfl
   have HST:=hid (QiB l k x hx)
   have HX:=hid hx
   clear hx
   by_cases hz:x=0
   ·subst hz
    have HS2:=hid (show orN l=orN (l.drop (k+1)) by rw [HT.out,HST.out,if_neg (by simp)])
    have e0:((0:Int) != 0)=false:=by simp
    clear HST HX
    go_wp2
    go_round
    case rel=>exact ⟨k+1,by omega,by go_num,HS2⟩
    case measure=>simp [intOf];omega
   ·have e0:(x != 0)=true:=by simpa using hz
    have HS2:=hid (show orN l=x by rw [HT.out,HST.out,if_pos hz])
    clear hz HST HX
    go_wp2
    go_ret
    exact ⟨by rw [HS2.out];first | done | rfl,rfl⟩
  ·have hge:decide ((k:Int)<(n:Int))=false:=by simp;omega
   have HE:=hid (show orN l=0 by rw [HT.out,List.drop_eq_nil_of_le (by rw [← HL.out];omega)];rfl)
   go_wp2
   go_ret
   exact ⟨by rw [HE.out];first | done | rfl,rfl⟩
theorem Qju (l:List Int) (g n:Nat) (T:TypeId) (w:World) (hr:Row w g T (l.map (Value.int .i64))) (hn:n=l.length) (hl:n≤100) :
  Calls Tryz.prog 41 #[.slice (some ⟨g,0,none⟩) n n] w fun e w'=>e=.returned (.int .i64 (orN l))∧w'=w:=by
 have HR:=hid hr
 have HL:=hid hn
 clear hr hn
 go_enter Tryz.func41,Tryz.ntmps41
 go_wp2
 go_loop [5,8] (fun _ i=>∃ k:Nat,k≤n∧i=.int .i64 (k:Int)∧Hid (orN l=orN (l.drop k))) (fun _ i=>n-(intOf i).toNat)
 case atStart=>exact ⟨0,by omega,rfl,hid rfl⟩
 case round =>
  obtain ⟨k,hk,rfl,HT⟩:=hrel
  by_cases hlt:k<n
  ·have hlt':(k:Int)<(n:Int):=by omega
   obtain ⟨x,hx⟩:∃ x,l[k]?=some x:=⟨l[k]'(by rw [← HL.out];exact hlt),List.getElem?_eq_getElem _⟩
   have c0:w.cell? ⟨g,k,none⟩=some (.int .i64 x):=by rw [HR.out.cell,List.getElem?_map,hx];rfl
   have HST:=hid (QiB l k x hx)
   have HX:=hid hx
   clear hx
   by_cases hz:x=0
   ·subst hz
    have HS2:=hid (show orN l=orN (l.drop (k+1)) by rw [HT.out,HST.out,if_neg (by simp)])
    have e0:((0:Int) != 0)=false:=by simp
    clear HST HX
    go_wp2
    go_round
    case rel=>exact ⟨k+1,by omega,by go_num,HS2⟩
    case measure=>simp [intOf];omega
   ·have e0:(x != 0)=true:=by simpa using hz
    have HS2:=hid (show orN l=x by rw [HT.out,HST.out,if_pos hz])
    clear hz HST HX
    go_wp2
    go_ret
    exact ⟨by rw [HS2.out];first | done | rfl,rfl⟩
  ·have hge:decide ((k:Int)<(n:Int))=false:=by simp;omega
   have HE:=hid (show orN l=0 by rw [HT.out,List.drop_eq_nil_of_le (by rw [← HL.out];omega)];rfl)
   go_wp2
   go_ret
   exact ⟨by rw [HE.out];first | done | rfl,rfl⟩
def YE (a b:ByteArray):Int:=Lib.compareBytes a.data.toList b.data.toList
theorem Qbx (a b:ByteArray) (w:World):Calls Tryz.prog 77 #[.string a,.string b] w fun e w'=>e=.returned (.int .i64 (YE a b))∧w'=w:=Go.Proofs.Any.strings_Compare Tryz.laysStr106 a b w
theorem QeR {y0 y1 z4 z5 z6 z7 z8 z9 A0 A1 A2 A3 A4 A5 A6:Value} {ga gb:Nat} (a b:Mk) (oa ob:Option Addr) (ca cb:Nat) {w:World} (hra:Hid (Row w ga 93 [.int .i64 a.chan,.int .i64 a.seq,.slice oa a.dig.length ca])) (hrb:Hid (Row w gb 93 [.int .i64 b.chan,.int .i64 b.seq,.slice ob b.dig.length cb])) (Q:Exit→Act→World→Prop)
  (hQ:Hid (∀ (σ:Nat→Value) (w':World),Below w.heap.size w w'→/-12-/ σ 12=.int .i64 (orN [J0 a.chan b.chan,J0 a.seq b.seq])→Q .normal ⟨#[y0,y1,.pointer (some ⟨ga,0,none⟩),.pointer (some ⟨gb,0,none⟩),σ 12,σ 0,σ 1,σ 2,σ 3,σ 4,σ 5,σ 6,σ 7,σ 8,σ 9,σ 10,σ 11],[]⟩ w')) :
  Code.wp Tryz.prog (.region 1 ((Tryz.f51.body.bind (Q3 1)).getD #[]) true) Q ⟨#[y0,y1,.pointer (some ⟨ga,0,none⟩),.pointer (some ⟨gb,0,none⟩),z4,z5,z6,z7,z8,z9,A0,A1,A2,A3,A4,A5,A6],[]⟩ w:=by
 conv=>arg 2;arg 2;whnf
 conv=>arg 4;dsimp only
 refine QT (by kernel_rfl) (fun σ=>#[y0,y1,.pointer (some ⟨ga,0,none⟩),.pointer (some ⟨gb,0,none⟩),σ 12,σ 0,σ 1,σ 2,σ 3,σ 4,σ 5,σ 6,σ 7,σ 8,σ 9,σ 10,σ 11]) (fun i=>([z5,z6,z7,z8,z9,A0,A1,A2,A3,A4,A5,A6,z4]:List Value).getD i undef) rfl (fun i X W=>match i with
  | 0=>X=.pointer (some ⟨ga,0,none⟩)
  | 1=>X=.int .i64 a.chan
  | 2=>X=.pointer (some ⟨gb,0,none⟩)
  | 3=>X=.int .i64 b.chan
  | 4=>X=.int .i64 (J0 a.chan b.chan)
  | 5=>X=.pointer (some ⟨ga,1,none⟩)
  | 6=>X=.int .i64 a.seq
  | 7=>X=.pointer (some ⟨gb,1,none⟩)
  | 8=>X=.int .i64 b.seq
  | 9=>X=.int .i64 (J0 a.seq b.seq)
  | 10=>∃ k,X=.slice (some ⟨k,0,none⟩) 2 2∧Row W k 3 [.int .i64 (J0 a.chan b.chan),.int .i64 (J0 a.seq b.seq)]
  | 11=>X=.int .i64 (orN [J0 a.chan b.chan,J0 a.seq b.seq])
  | 12=>X=.int .i64 (orN [J0 a.chan b.chan,J0 a.seq b.seq])
  | _=>True) ?_ (by kernel_rfl) ?_ ?_
 ·intro i X W W' HB H
  match i,H with
  | 0,H=>exact H
  | 1,H=>exact H
  | 2,H=>exact H
  | 3,H=>exact H
  | 4,H=>exact H
  | 5,H=>exact H
  | 6,H=>exact H
  | 7,H=>exact H
  | 8,H=>exact H
  | 9,H=>exact H
  | 10,H=>exact (by obtain ⟨k,e,hr⟩:=H;exact ⟨k,e,hr.below HB hr.lt⟩)
  | 11,H=>exact H
  | 12,H=>exact H
  | _+13,_=>exact trivial
 ·refine ⟨?_,?_,?_,?_,?_,?_,?_,?_,?_,?_,?_,?_,?_,trivial⟩
  ·
   intro σ W HJ hdep
   simp [Region.binds] at hdep
   have HJ:=hid HJ
   refine Qa rfl rfl ?_
   go_simp
   exact Ql.mk0 (.pointer (some ⟨ga,0,none⟩)) (by first | rfl | simp [Qe, *]) HJ.out rfl
  ·
   intro σ W HJ hdep
   simp [Region.binds] at hdep
   have HJ:=hid HJ
   have kc:=(rg hra HJ).cell 0
   simp at kc
   refine Qa rfl rfl ?_
   go_simp
   exact Ql.mk0 (.int .i64 a.chan) (by first | rfl | simp [Qe, *]) HJ.out rfl
  ·
   intro σ W HJ hdep
   simp [Region.binds] at hdep
   have HJ:=hid HJ
   refine Qa rfl rfl ?_
   go_simp
   exact Ql.mk0 (.pointer (some ⟨gb,0,none⟩)) (by first | rfl | simp [Qe, *]) HJ.out rfl
  ·
   intro σ W HJ hdep
   simp [Region.binds] at hdep
   have HJ:=hid HJ
   have kc:=(rg hrb HJ).cell 0
   simp at kc
   refine Qa rfl rfl ?_
   go_simp
   exact Ql.mk0 (.int .i64 b.chan) (by first | rfl | simp [Qe, *]) HJ.out rfl
  ·
   intro σ W HJ hdep
   simp [Region.binds] at hdep
   have HJ:=hid HJ
   refine Qa rfl rfl ?_
   go_simp
   refine (Qbv a.chan b.chan W).mono ?_
   rintro e w2 ⟨rfl,hw2⟩
   obtain rfl:=hw2.symm
   exact Ql.mk0 (.int .i64 (J0 a.chan b.chan)) (by first | rfl | simp [Qe, *]) HJ.out rfl
  ·
   intro σ W HJ hdep
   simp [Region.binds] at hdep
   have HJ:=hid HJ
   refine Qa rfl rfl ?_
   go_simp
   exact Ql.mk0 (.pointer (some ⟨ga,1,none⟩)) (by first | rfl | simp [Qe, *]) HJ.out rfl
  ·
   intro σ W HJ hdep
   simp [Region.binds] at hdep
   have HJ:=hid HJ
   have kc:=(rg hra HJ).cell 1
   simp at kc
   refine Qa rfl rfl ?_
   go_simp
   exact Ql.mk0 (.int .i64 a.seq) (by first | rfl | simp [Qe, *]) HJ.out rfl
  ·
   intro σ W HJ hdep
   simp [Region.binds] at hdep
   have HJ:=hid HJ
   refine Qa rfl rfl ?_
   go_simp
   exact Ql.mk0 (.pointer (some ⟨gb,1,none⟩)) (by first | rfl | simp [Qe, *]) HJ.out rfl
  ·
   intro σ W HJ hdep
   simp [Region.binds] at hdep
   have HJ:=hid HJ
   have kc:=(rg hrb HJ).cell 1
   simp at kc
   refine Qa rfl rfl ?_
   go_simp
   exact Ql.mk0 (.int .i64 b.seq) (by first | rfl | simp [Qe, *]) HJ.out rfl
  ·
   intro σ W HJ hdep
   simp [Region.binds] at hdep
   have HJ:=hid HJ
   refine Qa rfl rfl ?_
   go_simp
   refine (Qbv a.seq b.seq W).mono ?_
   rintro e w2 ⟨rfl,hw2⟩
   obtain rfl:=hw2.symm
   exact Ql.mk0 (.int .i64 (J0 a.seq b.seq)) (by first | rfl | simp [Qe, *]) HJ.out rfl
  ·
   intro σ W HJ hdep
   simp [Region.binds] at hdep
   have HJ:=hid HJ
   obtain ⟨e1,e2⟩:=hdep
   refine Qa rfl rfl ?_
   go_simp
   exact Ql.mk (.slice (some ⟨W.heap.size,0,none⟩) 2 2) (by first | rfl | simp [Qe, *]) ((Below.refl _ _).alloc (Nat.le_refl _) _) HJ.out ⟨W.heap.size,rfl,Row.new _ _ _⟩
  ·
   intro σ W HJ hdep
   simp [Region.binds] at hdep
   have HJ:=hid HJ
   obtain ⟨k,e10,hrow⟩:∃ k,σ 10=.slice (some ⟨k,0,none⟩) 2 2∧Row W k 3 [.int .i64 (J0 a.chan b.chan),.int .i64 (J0 a.seq b.seq)]:=by first | exact hdep | exact hdep.1
   have HC:=hid (QgV [J0 a.chan b.chan,J0 a.seq b.seq] k 2 3 W hrow rfl (by decide))
   clear hdep hrow
   refine Qa rfl rfl ?_
   go_simp
   refine (HC.out).mono ?_
   rintro e w2 ⟨rfl,hw2⟩
   obtain rfl:=hw2.symm
   exact Ql.mk0 (.int .i64 (orN [J0 a.chan b.chan,J0 a.seq b.seq])) (by first | rfl | simp [Qe, *]) HJ.out rfl
  ·
   intro σ W HJ hdep
   simp [Region.binds] at hdep
   have HJ:=hid HJ
   refine Qa rfl rfl ?_
   go_simp
   exact Ql.mk0 (.int .i64 (orN [J0 a.chan b.chan,J0 a.seq b.seq])) (by first | rfl | simp [Qe, *]) HJ.out rfl
 ·intro σ w' hb hg
  exact hQ.out σ w' hb (by first | exact ⟨hg 12 (by decide)⟩ | exact hg 12 (by decide))
theorem QeS {y0 y1 z4 z5 z6 z7 z8 z9 A0 A1 A2 A3 A4 A5 A6:Value} {ga gb:Nat} (a b:Pu)  {w:World} (hra:Hid (Row w ga 75 [.string a.owner,.string a.denom,.int .u64 (a.amount:Int)])) (hrb:Hid (Row w gb 75 [.string b.owner,.string b.denom,.int .u64 (b.amount:Int)])) (Q:Exit→Act→World→Prop)
  (hQ:Hid (∀ (σ:Nat→Value) (w':World),Below w.heap.size w w'→/-12-/ σ 12=.int .i64 (orN [YE a.owner b.owner,YE a.denom b.denom])→Q .normal ⟨#[y0,y1,.pointer (some ⟨ga,0,none⟩),.pointer (some ⟨gb,0,none⟩),σ 12,σ 0,σ 1,σ 2,σ 3,σ 4,σ 5,σ 6,σ 7,σ 8,σ 9,σ 10,σ 11],[]⟩ w')) :
  Code.wp Tryz.prog (.region 1 ((Tryz.f55.body.bind (Q3 1)).getD #[]) true) Q ⟨#[y0,y1,.pointer (some ⟨ga,0,none⟩),.pointer (some ⟨gb,0,none⟩),z4,z5,z6,z7,z8,z9,A0,A1,A2,A3,A4,A5,A6],[]⟩ w:=by
 conv=>arg 2;arg 2;whnf
 conv=>arg 4;dsimp only
 refine QT (by kernel_rfl) (fun σ=>#[y0,y1,.pointer (some ⟨ga,0,none⟩),.pointer (some ⟨gb,0,none⟩),σ 12,σ 0,σ 1,σ 2,σ 3,σ 4,σ 5,σ 6,σ 7,σ 8,σ 9,σ 10,σ 11]) (fun i=>([z5,z6,z7,z8,z9,A0,A1,A2,A3,A4,A5,A6,z4]:List Value).getD i undef) rfl (fun i X W=>match i with
  | 0=>X=.pointer (some ⟨ga,0,none⟩)
  | 1=>X=.string a.owner
  | 2=>X=.pointer (some ⟨gb,0,none⟩)
  | 3=>X=.string b.owner
  | 4=>X=.int .i64 (YE a.owner b.owner)
  | 5=>X=.pointer (some ⟨ga,1,none⟩)
  | 6=>X=.string a.denom
  | 7=>X=.pointer (some ⟨gb,1,none⟩)
  | 8=>X=.string b.denom
  | 9=>X=.int .i64 (YE a.denom b.denom)
  | 10=>∃ k,X=.slice (some ⟨k,0,none⟩) 2 2∧Row W k 3 [.int .i64 (YE a.owner b.owner),.int .i64 (YE a.denom b.denom)]
  | 11=>X=.int .i64 (orN [YE a.owner b.owner,YE a.denom b.denom])
  | 12=>X=.int .i64 (orN [YE a.owner b.owner,YE a.denom b.denom])
  | _=>True) ?_ (by kernel_rfl) ?_ ?_
 ·intro i X W W' HB H
  match i,H with
  | 0,H=>exact H
  | 1,H=>exact H
  | 2,H=>exact H
  | 3,H=>exact H
  | 4,H=>exact H
  | 5,H=>exact H
  | 6,H=>exact H
  | 7,H=>exact H
  | 8,H=>exact H
  | 9,H=>exact H
  | 10,H=>exact (by obtain ⟨k,e,hr⟩:=H;exact ⟨k,e,hr.below HB hr.lt⟩)
  | 11,H=>exact H
  | 12,H=>exact H
  | _+13,_=>exact trivial
 ·refine ⟨?_,?_,?_,?_,?_,?_,?_,?_,?_,?_,?_,?_,?_,trivial⟩
  ·
   intro σ W HJ hdep
   simp [Region.binds] at hdep
   have HJ:=hid HJ
   refine Qa rfl rfl ?_
   go_simp
   exact Ql.mk0 (.pointer (some ⟨ga,0,none⟩)) (by first | rfl | simp [Qe, *]) HJ.out rfl
  ·
   intro σ W HJ hdep
   simp [Region.binds] at hdep
   have HJ:=hid HJ
   have kc:=(rg hra HJ).cell 0
   simp at kc
   refine Qa rfl rfl ?_
   go_simp
   exact Ql.mk0 (.string a.owner) (by first | rfl | simp [Qe, *]) HJ.out rfl
  ·
   intro σ W HJ hdep
   simp [Region.binds] at hdep
   have HJ:=hid HJ
   refine Qa rfl rfl ?_
   go_simp
   exact Ql.mk0 (.pointer (some ⟨gb,0,none⟩)) (by first | rfl | simp [Qe, *]) HJ.out rfl
  ·
   intro σ W HJ hdep
   simp [Region.binds] at hdep
   have HJ:=hid HJ
   have kc:=(rg hrb HJ).cell 0
   simp at kc
   refine Qa rfl rfl ?_
   go_simp
   exact Ql.mk0 (.string b.owner) (by first | rfl | simp [Qe, *]) HJ.out rfl
  ·
   intro σ W HJ hdep
   simp [Region.binds] at hdep
   have HJ:=hid HJ
   refine Qa rfl rfl ?_
   go_simp
   refine (Qbx a.owner b.owner W).mono ?_
   rintro e w2 ⟨rfl,hw2⟩
   obtain rfl:=hw2.symm
   exact Ql.mk0 (.int .i64 (YE a.owner b.owner)) (by first | rfl | simp [Qe, *]) HJ.out rfl
  ·
   intro σ W HJ hdep
   simp [Region.binds] at hdep
   have HJ:=hid HJ
   refine Qa rfl rfl ?_
   go_simp
   exact Ql.mk0 (.pointer (some ⟨ga,1,none⟩)) (by first | rfl | simp [Qe, *]) HJ.out rfl
  ·
   intro σ W HJ hdep
   simp [Region.binds] at hdep
   have HJ:=hid HJ
   have kc:=(rg hra HJ).cell 1
   simp at kc
   refine Qa rfl rfl ?_
   go_simp
   exact Ql.mk0 (.string a.denom) (by first | rfl | simp [Qe, *]) HJ.out rfl
  ·
   intro σ W HJ hdep
   simp [Region.binds] at hdep
   have HJ:=hid HJ
   refine Qa rfl rfl ?_
   go_simp
   exact Ql.mk0 (.pointer (some ⟨gb,1,none⟩)) (by first | rfl | simp [Qe, *]) HJ.out rfl
  ·
   intro σ W HJ hdep
   simp [Region.binds] at hdep
   have HJ:=hid HJ
   have kc:=(rg hrb HJ).cell 1
   simp at kc
   refine Qa rfl rfl ?_
   go_simp
   exact Ql.mk0 (.string b.denom) (by first | rfl | simp [Qe, *]) HJ.out rfl
  ·
   intro σ W HJ hdep
   simp [Region.binds] at hdep
   have HJ:=hid HJ
   refine Qa rfl rfl ?_
   go_simp
   refine (Qbx a.denom b.denom W).mono ?_
   rintro e w2 ⟨rfl,hw2⟩
   obtain rfl:=hw2.symm
   exact Ql.mk0 (.int .i64 (YE a.denom b.denom)) (by first | rfl | simp [Qe, *]) HJ.out rfl
  ·
   intro σ W HJ hdep
   simp [Region.binds] at hdep
   have HJ:=hid HJ
   obtain ⟨e1,e2⟩:=hdep
   refine Qa rfl rfl ?_
   go_simp
   exact Ql.mk (.slice (some ⟨W.heap.size,0,none⟩) 2 2) (by first | rfl | simp [Qe, *]) ((Below.refl _ _).alloc (Nat.le_refl _) _) HJ.out ⟨W.heap.size,rfl,Row.new _ _ _⟩
  ·
   intro σ W HJ hdep
   simp [Region.binds] at hdep
   have HJ:=hid HJ
   obtain ⟨k,e10,hrow⟩:∃ k,σ 10=.slice (some ⟨k,0,none⟩) 2 2∧Row W k 3 [.int .i64 (YE a.owner b.owner),.int .i64 (YE a.denom b.denom)]:=by first | exact hdep | exact hdep.1
   have HC:=hid (QgV [YE a.owner b.owner,YE a.denom b.denom] k 2 3 W hrow rfl (by decide))
   clear hdep hrow
   refine Qa rfl rfl ?_
   go_simp
   refine (HC.out).mono ?_
   rintro e w2 ⟨rfl,hw2⟩
   obtain rfl:=hw2.symm
   exact Ql.mk0 (.int .i64 (orN [YE a.owner b.owner,YE a.denom b.denom])) (by first | rfl | simp [Qe, *]) HJ.out rfl
  ·
   intro σ W HJ hdep
   simp [Region.binds] at hdep
   have HJ:=hid HJ
   refine Qa rfl rfl ?_
   go_simp
   exact Ql.mk0 (.int .i64 (orN [YE a.owner b.owner,YE a.denom b.denom])) (by first | rfl | simp [Qe, *]) HJ.out rfl
 ·intro σ w' hb hg
  exact hQ.out σ w' hb (by first | exact ⟨hg 12 (by decide)⟩ | exact hg 12 (by decide))
theorem QbX (a b:Mk) (oa ob:Option Addr) (ca cb:Nat) (w:World):Calls Tryz.prog 51 #[.agg #[.int .i64 a.chan,.int .i64 a.seq,.slice oa a.dig.length ca],.agg #[.int .i64 b.chan,.int .i64 b.seq,.slice ob b.dig.length cb]] w fun e w'=>e=.returned (.int .i64 (orN [J0 a.chan b.chan,J0 a.seq b.seq]))∧Below w.heap.size w w':=by
 obtain ⟨w0,hw0⟩:∃ w0,(w.alloc (.cells #[.int .i64 a.chan,.int .i64 a.seq,.slice oa a.dig.length ca] 93)).alloc (.cells #[.int .i64 b.chan,.int .i64 b.seq,.slice ob b.dig.length cb] 93)=w0:=⟨_,rfl⟩
 have HB0:=hid (show Below w.heap.size w w0 by rw [← hw0];exact ((Below.refl _ _).alloc (Nat.le_refl _) _).alloc (by simp) _)
 have HRA:=hid (show Row w0 w.heap.size 93 [.int .i64 a.chan,.int .i64 a.seq,.slice oa a.dig.length ca] by rw [← hw0];exact (Row.new _ _ _).alloc _)
 have HRB:=hid (show Row w0 (w.heap.size+1) 93 [.int .i64 b.chan,.int .i64 b.seq,.slice ob b.dig.length cb] by rw [← hw0];exact Row.newAt _ _ _ _ (by simp))
 have HW0:=hid hw0
 clear hw0
 go_enter Tryz.func51,Tryz.ntmps51
 go_wp2_with fail
 rw [HW0.out]
 refine QeR a b oa ob ca cb HRA HRB _ (hid ?_)
 intro σ1 w2 hb2 h12
 have HB2:=hgo HB0 hb2
 rw [h12]
 clear hb2 h12
 go_wp2
 go_ret
 exact ⟨by first | done | rfl,HB2.out⟩
theorem Qbw (a b:Pu)  (w:World):Calls Tryz.prog 55 #[.agg #[.string a.owner,.string a.denom,.int .u64 (a.amount:Int)],.agg #[.string b.owner,.string b.denom,.int .u64 (b.amount:Int)]] w fun e w'=>e=.returned (.int .i64 (orN [YE a.owner b.owner,YE a.denom b.denom]))∧Below w.heap.size w w':=by
 obtain ⟨w0,hw0⟩:∃ w0,(w.alloc (.cells #[.string a.owner,.string a.denom,.int .u64 (a.amount:Int)] 75)).alloc (.cells #[.string b.owner,.string b.denom,.int .u64 (b.amount:Int)] 75)=w0:=⟨_,rfl⟩
 have HB0:=hid (show Below w.heap.size w w0 by rw [← hw0];exact ((Below.refl _ _).alloc (Nat.le_refl _) _).alloc (by simp) _)
 have HRA:=hid (show Row w0 w.heap.size 75 [.string a.owner,.string a.denom,.int .u64 (a.amount:Int)] by rw [← hw0];exact (Row.new _ _ _).alloc _)
 have HRB:=hid (show Row w0 (w.heap.size+1) 75 [.string b.owner,.string b.denom,.int .u64 (b.amount:Int)] by rw [← hw0];exact Row.newAt _ _ _ _ (by simp))
 have HW0:=hid hw0
 clear hw0
 go_enter Tryz.func55,Tryz.ntmps55
 go_wp2_with fail
 rw [HW0.out]
 refine QeS a b  HRA HRB _ (hid ?_)
 intro σ1 w2 hb2 h12
 have HB2:=hgo HB0 hb2
 rw [h12]
 clear hb2 h12
 go_wp2
 go_ret
 exact ⟨by first | done | rfl,HB2.out⟩
theorem Qf7 (a b:Mk):QO a b=decide (orN [J0 a.chan b.chan,J0 a.seq b.seq]<0):=by
 unfold QO orN J0
 by_cases h1:a.chan<b.chan
 ·simp [h1]
 ·by_cases h2:b.chan<a.chan
  ·have:¬ a.chan=b.chan:=by omega
   simp [h1,h2,this]
  ·have e:a.chan=b.chan:=by omega
   by_cases h3:a.seq<b.seq
   ·simp [orN,e,h3]
   ·by_cases h4:b.seq<a.seq <;> simp [orN,e,h3,h4]
theorem ZO:∀ (a b:List UInt8),Op.bytesLess a b=decide (Lib.compareBytes a b<0)∧(Lib.compareBytes a b=0↔a=b)
 | [],[]=>⟨rfl,by simp [Lib.compareBytes]⟩
 | [],y :: b=>⟨rfl,by simp [Lib.compareBytes]⟩
 | x :: a,[]=>⟨rfl,by simp [Lib.compareBytes]⟩
 | x :: a,y :: b=>by
  obtain ⟨h1,h2⟩:=ZO a b
  unfold Op.bytesLess Lib.compareBytes
  by_cases g1:x<y
  ·have:x≠y:=fun e=>by subst e;exact absurd g1 (UInt8.lt_irrefl x)
   simp [g1,this]
  ·by_cases g2:y<x
   ·have:x≠y:=fun e=>by subst e;exact absurd g2 (UInt8.lt_irrefl x)
    simp [g1,g2,this]
   ·have e:x=y:=by
     have a1:¬ x.toNat<y.toNat:=g1
     have a2:¬ y.toNat<x.toNat:=g2
     exact UInt8.toNat_inj.1 (by omega)
    subst e
    simp [g1,h1,h2]
theorem Qf8 (a b:Pu):Ja a b=decide (orN [YE a.owner b.owner,YE a.denom b.denom]<0):=by
 have e:∀ x:ByteArray,x.toList=x.data.toList:=fun x=>by rw [ByteArray.toList_eq]
 obtain ⟨h1,h2⟩:=ZO a.owner.data.toList b.owner.data.toList
 obtain ⟨h3,h4⟩:=ZO a.denom.data.toList b.denom.data.toList
 have h5:a.owner=b.owner↔a.owner.data.toList=b.owner.data.toList:=by
  constructor
  ·intro h;rw [h]
  ·intro h;exact ByteArray.ext (Array.toList_inj.1 h)
 unfold Ja QcX YE
 rw [e,e,e,e,h1,h3]
 by_cases z:Lib.compareBytes a.owner.data.toList b.owner.data.toList=0
 ·have:=h5.2 (h2.1 z)
  rw [decide_eq_true this]
  by_cases z2:Lib.compareBytes a.denom.data.toList b.denom.data.toList=0 <;> simp [orN,z,z2]
 ·have:¬ a.owner=b.owner:=fun h=>z (h2.2 (h5.1 h))
  rw [decide_eq_false this]
  simp [orN,z]
theorem Za {α:Type} (lt:α→α→Bool) (a x:α):J9 lt (some a) x=lt a x:=rfl
theorem Jf {w:World} {g k:Nat} {t:TypeId} {cs:List Value} (h:Row w g t cs) {i:Nat} {v:Value} (hg:g≠k):Row (w.setCell ⟨k,i,none⟩ v) g t cs:=by
 unfold Row at *
 rw [heap_setCell_other _ _ _ _ hg]
 exact h
def Ji (w:World) (g:Nat) (p:Option Mk):Prop :=
 Row w g 94 [.func (.func 50) #[] #[]]∧Row w (g+1) 96 [.func (.func 51) #[] #[]]∧Row w (g+2+1) 4 [.bool p.isNone] ∧
 match p with
 | none=>Row w (g+2) 93 [.int .i64 0,.int .i64 0,.slice none 0 0]
 | some a=>∃ o c,Row w (g+2) 93 [.int .i64 a.chan,.int .i64 a.seq,.slice o a.dig.length c]
theorem Ji.below {w w':World} {g:Nat} {p:Option Mk} (h:Ji w g p) (hb:Below w.heap.size w w'):Ji w' g p:=by
 obtain ⟨h1,h2,h3,h4⟩:=h
 refine ⟨h1.below hb h1.lt,h2.below hb h2.lt,h3.below hb h3.lt,?_⟩
 cases p with
 | none=>exact Row.below h4 hb (Row.lt h4)
 | some a=>obtain ⟨o,c,h⟩:=h4;exact ⟨o,c,h.below hb h.lt⟩
def YH (g:Nat):Value:=.func (.func 72) #[] #[.pointer (some ⟨g,0,none⟩),.pointer (some ⟨g+2+1,0,none⟩),.pointer (some ⟨g+1,0,none⟩),.pointer (some ⟨g+2,0,none⟩)]
theorem Qda (w:World):Calls Tryz.prog 49 #[.func (.func 50) #[] #[],.func (.func 51) #[] #[]] w fun e w'=>e=.returned (YH w.heap.size)∧Below w.heap.size w w'∧Ji w' w.heap.size none:=by
 obtain ⟨w0,hw0⟩:∃ w0,(((w.alloc (.cells #[.func (.func 50) #[] #[]] 94)).alloc (.cells #[.func (.func 51) #[] #[]] 96)).alloc (.cells #[.int .i64 0,.int .i64 0,.slice none 0 0] 93)).alloc (.cells #[.bool true] 4)=w0:=⟨_,rfl⟩
 have HB0:=hid (show Below w.heap.size w w0 by rw [← hw0];exact ((((Below.refl _ _).alloc (Nat.le_refl _) _).alloc (by simp) _).alloc (by simp;omega) _).alloc (by simp;omega) _)
 have HR:=hid (show Ji w0 w.heap.size none by
  rw [← hw0]
  exact ⟨(((Row.new _ _ _).alloc _).alloc _).alloc _,((Row.newAt _ _ _ _ (by simp)).alloc _).alloc _,Row.newAt _ _ _ _ (by simp),(Row.newAt _ _ _ _ (by simp)).alloc _⟩)
 have HW0:=hid hw0
 clear hw0
 go_enter Tryz.func49,Tryz.ntmps49
 go_wp2
 go_ret
 first | rw [HW0.out] | skip
 exact ⟨by first | done | rfl,HB0.out,HR.out⟩
def JQ (p:Option Mk) (x:Mk):Int:=if Qw x≠0 then Qw x else if J9 QO p x=false then 2 else 0
theorem Qku (p:Option Mk) (x:Mk) (r:List Mk):YG Qw QO p (x :: r)=if JQ p x≠0 then JQ p x else YG Qw QO (some x) r:=by
 unfold JQ
 rw [YG]
 by_cases h1:Qw x=0
 ·simp only [h1,ne_eq,not_true_eq_false,if_false]
  cases J9 QO p x <;> simp
 ·simp [h1]
theorem Qgo (p:Option Mk) (x:Mk) (ox:Option Addr) (cx:Nat) (g:Nat) (w:World) (h:Ji w g p) :
  Calls Tryz.prog 72 #[.agg #[.int .i64 x.chan,.int .i64 x.seq,.slice ox x.dig.length cx],.pointer (some ⟨g,0,none⟩),.pointer (some ⟨g+2+1,0,none⟩),.pointer (some ⟨g+1,0,none⟩),.pointer (some ⟨g+2,0,none⟩)] w fun e w'=>e=.returned (.int .i64 (JQ p x))∧Below g w w'∧(JQ p x=0→Ji w' g (some x)):=by
 obtain ⟨h0,h1,h3,h4⟩:=h
 have hg3:=h3.lt
 have hgw:g≤w.heap.size:=by omega
 obtain ⟨w0,hw0⟩:∃ w0,w.alloc (.cells #[.int .i64 x.chan,.int .i64 x.seq,.slice ox x.dig.length cx] 93)=w0:=⟨_,rfl⟩
 have hb0:=bof hw0
 have HB0:=hid hb0
 have HX0:=hid (QaL hw0)
 have H00:=hid (h0.below hb0 h0.lt)
 have H10:=hid (h1.below hb0 h1.lt)
 have H30:=hid (h3.below hb0 h3.lt)
 have HW0:=hid hw0
 have HWR:=hid (show Calls Tryz.prog 50 #[.agg #[.int .i64 x.chan,.int .i64 x.seq,.slice ox x.dig.length cx]] w0 _ from QdO x ox cx w0)
 have k0:w0.cell? ⟨g,0,none⟩=some (.func (.func 50) #[] #[]):=H00.out.cell 0
 have x0:w0.cell? ⟨w.heap.size,0,none⟩=some (.int .i64 x.chan):=HX0.out.cell 0
 have x1:w0.cell? ⟨w.heap.size,1,none⟩=some (.int .i64 x.seq):=HX0.out.cell 1
 have x2:w0.cell? ⟨w.heap.size,2,none⟩=some (.slice ox x.dig.length cx):=HX0.out.cell 2
 have H4:=hid h4
 clear hw0 h0 h1 h3 h4 hb0
 by_cases hz:Qw x=0
 ·have HZ:=hid hz
  clear hz
  cases p with
  | none =>
   have HNX:=hid (show JQ none x=0 by unfold JQ J9;simp [HZ.out])
   go_enter Tryz.func72,Tryz.ntmps72
   go_upto_region 1 with fail
   rw [HW0.out]
   go_wp2_with fail
   refine HWR.out.mono ?_
   rintro e w1 ⟨rfl,hb1⟩
   rw [HZ.out]
   have HB1:=hgo HB0 hb1
   have hG0:=rgo H00 hb1
   have hG1:=rgo H10 hb1
   have hG3:=rgo H30 hb1
   have HX1:=rgo HX0 hb1
   have HA1:=hid ((Row.below H4.out (HB0.out) (Row.lt H4.out)).below hb1 (Row.lt (Row.below H4.out (HB0.out) (Row.lt H4.out))))
   have b3:w1.cell? ⟨g+2+1,0,none⟩=some (.bool true):=hG3.out.cell 0
   have z0:w1.cell? ⟨w.heap.size,0,none⟩=some (.int .i64 x.chan):=HX1.out.cell 0
   have z1:w1.cell? ⟨w.heap.size,1,none⟩=some (.int .i64 x.seq):=HX1.out.cell 1
   have z2:w1.cell? ⟨w.heap.size,2,none⟩=some (.slice ox x.dig.length cx):=HX1.out.cell 2
   have fr3:=hG3.out.frozen 0
   have y0:=HA1.out.cell 0
   have y1:=HA1.out.cell 1
   have y2:=HA1.out.cell 2
   simp at y0
   simp at y1
   simp at y2
   have fra0:=HA1.out.frozen 0
   have fra1:=HA1.out.frozen 1
   have fra2:=HA1.out.frozen 2
   clear hb1
   obtain ⟨wz,hwz⟩:∃ wz,((((w1.setCell ⟨g+2,0,none⟩ (.int .i64 x.chan)).setCell ⟨g+2,1,none⟩ (.int .i64 x.seq)).setCell ⟨g+2,2,none⟩ (.slice ox x.dig.length cx)).setCell ⟨g+2+1,0,none⟩ (.bool false))=wz:=⟨_,rfl⟩
   have HBZ:=hid (show Below g w wz by rw [← hwz];exact (((((HB1.out.mono hgw).setCell (show g≤g+2 by omega) _).setCell (show g≤g+2 by omega) _).setCell (show g≤g+2 by omega) _).setCell (show g≤g+2+1 by omega) _))
   have HRZ:=hid (show Ji wz g (some x) by
    rw [← hwz]
    refine ⟨?_,?_,?_,ox,cx,?_⟩
    ·exact Jf (Jf (Jf (Jf hG0.out (by omega)) (by omega)) (by omega)) (by omega)
    ·exact Jf (Jf (Jf (Jf hG1.out (by omega)) (by omega)) (by omega)) (by omega)
    ·exact (Jf (Jf (Jf hG3.out (by omega)) (by omega)) (by omega)).set 0 _
    ·exact Jf (((HA1.out.set 0 _).set 1 _).set 2 _) (by omega))
   have HWZ:=hid hwz
   clear hwz
   go_wp2
   go_ret
   first | rw [HWZ.out] | skip
   exact ⟨by rw [HNX.out];first | done | rfl,HBZ.out,fun _=>HRZ.out⟩
  | some a =>
   obtain ⟨oa,ca,hra⟩:∃ o c,Row w (g+2) 93 [.int .i64 a.chan,.int .i64 a.seq,.slice o a.dig.length c]:=H4.out
   have hra0:=hra.below HB0.out hra.lt
   have HRA0:=hid hra0
   clear H4 hra hra0
   go_enter Tryz.func72,Tryz.ntmps72
   go_upto_region 1 with fail
   rw [HW0.out]
   go_wp2_with fail
   refine HWR.out.mono ?_
   rintro e w1 ⟨rfl,hb1⟩
   rw [HZ.out]
   have HB1:=hgo HB0 hb1
   have hE0:=rgo H00 hb1
   have hE1:=rgo H10 hb1
   have hE3:=rgo H30 hb1
   have HX1:=rgo HX0 hb1
   have HA1:=rgo HRA0 hb1
   have HCM:=hid (show Calls Tryz.prog 51 #[.agg #[.int .i64 a.chan,.int .i64 a.seq,.slice oa a.dig.length ca],.agg #[.int .i64 x.chan,.int .i64 x.seq,.slice ox x.dig.length cx]] w1 _ from QbX a x oa ox ca cx w1)
   have b3:w1.cell? ⟨g+2+1,0,none⟩=some (.bool false):=hE3.out.cell 0
   have b1:w1.cell? ⟨g+1,0,none⟩=some (.func (.func 51) #[] #[]):=hE1.out.cell 0
   have q0:w1.cell? ⟨g+2,0,none⟩=some (.int .i64 a.chan):=HA1.out.cell 0
   have q1:w1.cell? ⟨g+2,1,none⟩=some (.int .i64 a.seq):=HA1.out.cell 1
   have q2:w1.cell? ⟨g+2,2,none⟩=some (.slice oa a.dig.length ca):=HA1.out.cell 2
   have z0:w1.cell? ⟨w.heap.size,0,none⟩=some (.int .i64 x.chan):=HX1.out.cell 0
   have z1:w1.cell? ⟨w.heap.size,1,none⟩=some (.int .i64 x.seq):=HX1.out.cell 1
   have z2:w1.cell? ⟨w.heap.size,2,none⟩=some (.slice ox x.dig.length cx):=HX1.out.cell 2
   clear hb1
   go_wp2_with fail
   refine HCM.out.mono ?_
   rintro e w2 ⟨rfl,hb2⟩
   have HB2:=hgo HB1 hb2
   have hG0:=rgo hE0 hb2
   have hG1:=rgo hE1 hb2
   have hG3:=rgo hE3 hb2
   have HX2:=rgo HX1 hb2
   have HA2:=rgo HA1 hb2
   clear hb2 b3 b1 q0 q1 q2 z0 z1 z2 x0 x1 x2 k0
   have z0:w2.cell? ⟨w.heap.size,0,none⟩=some (.int .i64 x.chan):=HX2.out.cell 0
   have z1:w2.cell? ⟨w.heap.size,1,none⟩=some (.int .i64 x.seq):=HX2.out.cell 1
   have z2:w2.cell? ⟨w.heap.size,2,none⟩=some (.slice ox x.dig.length cx):=HX2.out.cell 2
   have fr3:=hG3.out.frozen 0
   have y0:=HA2.out.cell 0
   have y1:=HA2.out.cell 1
   have y2:=HA2.out.cell 2
   simp at y0
   simp at y1
   simp at y2
   have b3:w2.cell? ⟨g+2+1,0,none⟩=some (.bool false):=hG3.out.cell 0
   have fra0:=HA2.out.frozen 0
   have fra1:=HA2.out.frozen 1
   have fra2:=HA2.out.frozen 2
   have HLC:=hid (Qf7 a x)
   generalize hcz:orN [J0 a.chan x.chan,J0 a.seq x.seq]=zc at *
   clear hcz
   by_cases hlt:zc<0
   ·have e0:decide ((0:Int)≤zc)=false:=decide_eq_false (by omega)
    have HNX:=hid (show JQ (some a) x=0 by unfold JQ;rw [Za,HLC.out,decide_eq_true hlt];simp [HZ.out])
    clear hlt HLC HCM
    obtain ⟨wz,hwz⟩:∃ wz,((((w2.setCell ⟨g+2,0,none⟩ (.int .i64 x.chan)).setCell ⟨g+2,1,none⟩ (.int .i64 x.seq)).setCell ⟨g+2,2,none⟩ (.slice ox x.dig.length cx)).setCell ⟨g+2+1,0,none⟩ (.bool false))=wz:=⟨_,rfl⟩
    have HBZ:=hid (show Below g w wz by rw [← hwz];exact (((((HB2.out.mono hgw).setCell (show g≤g+2 by omega) _).setCell (show g≤g+2 by omega) _).setCell (show g≤g+2 by omega) _).setCell (show g≤g+2+1 by omega) _))
    have HRZ:=hid (show Ji wz g (some x) by
     rw [← hwz]
     refine ⟨?_,?_,?_,ox,cx,?_⟩
     ·exact Jf (Jf (Jf (Jf hG0.out (by omega)) (by omega)) (by omega)) (by omega)
     ·exact Jf (Jf (Jf (Jf hG1.out (by omega)) (by omega)) (by omega)) (by omega)
     ·exact (Jf (Jf (Jf hG3.out (by omega)) (by omega)) (by omega)).set 0 _
     ·exact Jf (((HA2.out.set 0 _).set 1 _).set 2 _) (by omega))
    have HWZ:=hid hwz
    clear hwz
    go_wp2
    go_ret
    first | rw [HWZ.out] | skip
    exact ⟨by rw [HNX.out];first | done | rfl,HBZ.out,fun _=>HRZ.out⟩
   ·have e0:decide ((0:Int)≤zc)=true:=decide_eq_true (by omega)
    have HNX:=hid (show JQ (some a) x=2 by unfold JQ;rw [Za,HLC.out,decide_eq_false hlt];simp [HZ.out])
    clear hlt HLC HCM
    go_wp2
    go_ret
    exact ⟨by rw [HNX.out];first | done | rfl,HB2.out.mono hgw,fun h=>absurd h (by rw [HNX.out];decide)⟩
 ·have e0:(Qw x != 0)=true:=by simpa using hz
  have HNX:=hid (show JQ p x=Qw x by unfold JQ;rw [if_pos hz])
  have HNZ:=hid hz
  clear hz
  generalize hwx:Qw x=zx at *
  clear hwx
  go_enter Tryz.func72,Tryz.ntmps72
  go_upto_region 1 with fail
  rw [HW0.out]
  go_wp2_with fail
  refine HWR.out.mono ?_
  rintro e w1 ⟨rfl,hb1⟩
  have HB1:=hgo HB0 hb1
  clear hb1
  go_wp2
  go_ret
  exact ⟨by rw [HNX.out];first | done | rfl,HB1.out.mono hgw,fun h=>absurd h (by rw [HNX.out];exact HNZ.out)⟩
def Ya (w:World) (g:Nat) (p:Option Pu):Prop :=
 Row w g 98 [.func (.func 54) #[] #[]]∧Row w (g+1) 100 [.func (.func 55) #[] #[]]∧Row w (g+2+1) 4 [.bool p.isNone] ∧
 match p with
 | none=>Row w (g+2) 75 [.string ⟨#[]⟩,.string ⟨#[]⟩,.int .u64 0]
 | some a=>Row w (g+2) 75 [.string a.owner,.string a.denom,.int .u64 (a.amount:Int)]
theorem Ya.below {w w':World} {g:Nat} {p:Option Pu} (h:Ya w g p) (hb:Below w.heap.size w w'):Ya w' g p:=by
 obtain ⟨h1,h2,h3,h4⟩:=h
 refine ⟨h1.below hb h1.lt,h2.below hb h2.lt,h3.below hb h3.lt,?_⟩
 cases p with
 | none=>exact Row.below h4 hb (Row.lt h4)
 | some a=>exact Row.below h4 hb (Row.lt h4)
def Qce (g:Nat):Value:=.func (.func 75) #[] #[.pointer (some ⟨g,0,none⟩),.pointer (some ⟨g+2+1,0,none⟩),.pointer (some ⟨g+1,0,none⟩),.pointer (some ⟨g+2,0,none⟩)]
theorem QiS (w:World):Calls Tryz.prog 53 #[.func (.func 54) #[] #[],.func (.func 55) #[] #[]] w fun e w'=>e=.returned (Qce w.heap.size)∧Below w.heap.size w w'∧Ya w' w.heap.size none:=by
 obtain ⟨w0,hw0⟩:∃ w0,(((w.alloc (.cells #[.func (.func 54) #[] #[]] 98)).alloc (.cells #[.func (.func 55) #[] #[]] 100)).alloc (.cells #[.string ⟨#[]⟩,.string ⟨#[]⟩,.int .u64 0] 75)).alloc (.cells #[.bool true] 4)=w0:=⟨_,rfl⟩
 have HB0:=hid (show Below w.heap.size w w0 by rw [← hw0];exact ((((Below.refl _ _).alloc (Nat.le_refl _) _).alloc (by simp) _).alloc (by simp;omega) _).alloc (by simp;omega) _)
 have HR:=hid (show Ya w0 w.heap.size none by
  rw [← hw0]
  exact ⟨(((Row.new _ _ _).alloc _).alloc _).alloc _,((Row.newAt _ _ _ _ (by simp)).alloc _).alloc _,Row.newAt _ _ _ _ (by simp),(Row.newAt _ _ _ _ (by simp)).alloc _⟩)
 have HW0:=hid hw0
 clear hw0
 go_enter Tryz.func53,Tryz.ntmps53
 go_wp2
 go_ret
 first | rw [HW0.out] | skip
 exact ⟨by first | done | rfl,HB0.out,HR.out⟩
def JR (p:Option Pu) (x:Pu):Int:=if QA x≠0 then QA x else if J9 Ja p x=false then 2 else 0
theorem Qkv (p:Option Pu) (x:Pu) (r:List Pu):YG QA Ja p (x :: r)=if JR p x≠0 then JR p x else YG QA Ja (some x) r:=by
 unfold JR
 rw [YG]
 by_cases h1:QA x=0
 ·simp only [h1,ne_eq,not_true_eq_false,if_false]
  cases J9 Ja p x <;> simp
 ·simp [h1]
theorem Qgp (p:Option Pu) (x:Pu) (g:Nat) (w:World) (h:Ya w g p) :
  Calls Tryz.prog 75 #[.agg #[.string x.owner,.string x.denom,.int .u64 (x.amount:Int)],.pointer (some ⟨g,0,none⟩),.pointer (some ⟨g+2+1,0,none⟩),.pointer (some ⟨g+1,0,none⟩),.pointer (some ⟨g+2,0,none⟩)] w fun e w'=>e=.returned (.int .i64 (JR p x))∧Below g w w'∧(JR p x=0→Ya w' g (some x)):=by
 obtain ⟨h0,h1,h3,h4⟩:=h
 have hg3:=h3.lt
 have hgw:g≤w.heap.size:=by omega
 obtain ⟨w0,hw0⟩:∃ w0,w.alloc (.cells #[.string x.owner,.string x.denom,.int .u64 (x.amount:Int)] 75)=w0:=⟨_,rfl⟩
 have hb0:=bof hw0
 have HB0:=hid hb0
 have HX0:=hid (QaL hw0)
 have H00:=hid (h0.below hb0 h0.lt)
 have H10:=hid (h1.below hb0 h1.lt)
 have H30:=hid (h3.below hb0 h3.lt)
 have HW0:=hid hw0
 have HWR:=hid (show Calls Tryz.prog 54 #[.agg #[.string x.owner,.string x.denom,.int .u64 (x.amount:Int)]] w0 _ from Qdt x w0)
 have k0:w0.cell? ⟨g,0,none⟩=some (.func (.func 54) #[] #[]):=H00.out.cell 0
 have x0:w0.cell? ⟨w.heap.size,0,none⟩=some (.string x.owner):=HX0.out.cell 0
 have x1:w0.cell? ⟨w.heap.size,1,none⟩=some (.string x.denom):=HX0.out.cell 1
 have x2:w0.cell? ⟨w.heap.size,2,none⟩=some (.int .u64 (x.amount:Int)):=HX0.out.cell 2
 have H4:=hid h4
 clear hw0 h0 h1 h3 h4 hb0
 by_cases hz:QA x=0
 ·have HZ:=hid hz
  clear hz
  cases p with
  | none =>
   have HNX:=hid (show JR none x=0 by unfold JR J9;simp [HZ.out])
   go_enter Tryz.func75,Tryz.ntmps75
   go_upto_region 1 with fail
   rw [HW0.out]
   go_wp2_with fail
   refine HWR.out.mono ?_
   rintro e w1 ⟨rfl,hb1⟩
   rw [HZ.out]
   have HB1:=hgo HB0 hb1
   have hG0:=rgo H00 hb1
   have hG1:=rgo H10 hb1
   have hG3:=rgo H30 hb1
   have HX1:=rgo HX0 hb1
   have HA1:=hid ((Row.below H4.out (HB0.out) (Row.lt H4.out)).below hb1 (Row.lt (Row.below H4.out (HB0.out) (Row.lt H4.out))))
   have b3:w1.cell? ⟨g+2+1,0,none⟩=some (.bool true):=hG3.out.cell 0
   have z0:w1.cell? ⟨w.heap.size,0,none⟩=some (.string x.owner):=HX1.out.cell 0
   have z1:w1.cell? ⟨w.heap.size,1,none⟩=some (.string x.denom):=HX1.out.cell 1
   have z2:w1.cell? ⟨w.heap.size,2,none⟩=some (.int .u64 (x.amount:Int)):=HX1.out.cell 2
   have fr3:=hG3.out.frozen 0
   have y0:=HA1.out.cell 0
   have y1:=HA1.out.cell 1
   have y2:=HA1.out.cell 2
   simp at y0
   simp at y1
   simp at y2
   have fra0:=HA1.out.frozen 0
   have fra1:=HA1.out.frozen 1
   have fra2:=HA1.out.frozen 2
   clear hb1
   obtain ⟨wz,hwz⟩:∃ wz,((((w1.setCell ⟨g+2,0,none⟩ (.string x.owner)).setCell ⟨g+2,1,none⟩ (.string x.denom)).setCell ⟨g+2,2,none⟩ (.int .u64 (x.amount:Int))).setCell ⟨g+2+1,0,none⟩ (.bool false))=wz:=⟨_,rfl⟩
   have HBZ:=hid (show Below g w wz by rw [← hwz];exact (((((HB1.out.mono hgw).setCell (show g≤g+2 by omega) _).setCell (show g≤g+2 by omega) _).setCell (show g≤g+2 by omega) _).setCell (show g≤g+2+1 by omega) _))
   have HRZ:=hid (show Ya wz g (some x) by
    rw [← hwz]
    refine ⟨?_,?_,?_,?_⟩
    ·exact Jf (Jf (Jf (Jf hG0.out (by omega)) (by omega)) (by omega)) (by omega)
    ·exact Jf (Jf (Jf (Jf hG1.out (by omega)) (by omega)) (by omega)) (by omega)
    ·exact (Jf (Jf (Jf hG3.out (by omega)) (by omega)) (by omega)).set 0 _
    ·exact Jf (((HA1.out.set 0 _).set 1 _).set 2 _) (by omega))
   have HWZ:=hid hwz
   clear hwz
   go_wp2
   go_ret
   first | rw [HWZ.out] | skip
   exact ⟨by rw [HNX.out];first | done | rfl,HBZ.out,fun _=>HRZ.out⟩
  | some a =>
   have hra:Row w (g+2) 75 [.string a.owner,.string a.denom,.int .u64 (a.amount:Int)]:=H4.out
   have hra0:=hra.below HB0.out hra.lt
   have HRA0:=hid hra0
   clear H4 hra hra0
   go_enter Tryz.func75,Tryz.ntmps75
   go_upto_region 1 with fail
   rw [HW0.out]
   go_wp2_with fail
   refine HWR.out.mono ?_
   rintro e w1 ⟨rfl,hb1⟩
   rw [HZ.out]
   have HB1:=hgo HB0 hb1
   have hE0:=rgo H00 hb1
   have hE1:=rgo H10 hb1
   have hE3:=rgo H30 hb1
   have HX1:=rgo HX0 hb1
   have HA1:=rgo HRA0 hb1
   have HCM:=hid (show Calls Tryz.prog 55 #[.agg #[.string a.owner,.string a.denom,.int .u64 (a.amount:Int)],.agg #[.string x.owner,.string x.denom,.int .u64 (x.amount:Int)]] w1 _ from Qbw a x w1)
   have b3:w1.cell? ⟨g+2+1,0,none⟩=some (.bool false):=hE3.out.cell 0
   have b1:w1.cell? ⟨g+1,0,none⟩=some (.func (.func 55) #[] #[]):=hE1.out.cell 0
   have q0:w1.cell? ⟨g+2,0,none⟩=some (.string a.owner):=HA1.out.cell 0
   have q1:w1.cell? ⟨g+2,1,none⟩=some (.string a.denom):=HA1.out.cell 1
   have q2:w1.cell? ⟨g+2,2,none⟩=some (.int .u64 (a.amount:Int)):=HA1.out.cell 2
   have z0:w1.cell? ⟨w.heap.size,0,none⟩=some (.string x.owner):=HX1.out.cell 0
   have z1:w1.cell? ⟨w.heap.size,1,none⟩=some (.string x.denom):=HX1.out.cell 1
   have z2:w1.cell? ⟨w.heap.size,2,none⟩=some (.int .u64 (x.amount:Int)):=HX1.out.cell 2
   clear hb1
   go_wp2_with fail
   refine HCM.out.mono ?_
   rintro e w2 ⟨rfl,hb2⟩
   have HB2:=hgo HB1 hb2
   have hG0:=rgo hE0 hb2
   have hG1:=rgo hE1 hb2
   have hG3:=rgo hE3 hb2
   have HX2:=rgo HX1 hb2
   have HA2:=rgo HA1 hb2
   clear hb2 b3 b1 q0 q1 q2 z0 z1 z2 x0 x1 x2 k0
   have z0:w2.cell? ⟨w.heap.size,0,none⟩=some (.string x.owner):=HX2.out.cell 0
   have z1:w2.cell? ⟨w.heap.size,1,none⟩=some (.string x.denom):=HX2.out.cell 1
   have z2:w2.cell? ⟨w.heap.size,2,none⟩=some (.int .u64 (x.amount:Int)):=HX2.out.cell 2
   have fr3:=hG3.out.frozen 0
   have y0:=HA2.out.cell 0
   have y1:=HA2.out.cell 1
   have y2:=HA2.out.cell 2
   simp at y0
   simp at y1
   simp at y2
   have b3:w2.cell? ⟨g+2+1,0,none⟩=some (.bool false):=hG3.out.cell 0
   have fra0:=HA2.out.frozen 0
   have fra1:=HA2.out.frozen 1
   have fra2:=HA2.out.frozen 2
   have HLC:=hid (Qf8 a x)
   generalize hcz:orN [YE a.owner x.owner,YE a.denom x.denom]=zc at *
   clear hcz
   by_cases hlt:zc<0
   ·have e0:decide ((0:Int)≤zc)=false:=decide_eq_false (by omega)
    have HNX:=hid (show JR (some a) x=0 by unfold JR;rw [Za,HLC.out,decide_eq_true hlt];simp [HZ.out])
    clear hlt HLC HCM
    obtain ⟨wz,hwz⟩:∃ wz,((((w2.setCell ⟨g+2,0,none⟩ (.string x.owner)).setCell ⟨g+2,1,none⟩ (.string x.denom)).setCell ⟨g+2,2,none⟩ (.int .u64 (x.amount:Int))).setCell ⟨g+2+1,0,none⟩ (.bool false))=wz:=⟨_,rfl⟩
    have HBZ:=hid (show Below g w wz by rw [← hwz];exact (((((HB2.out.mono hgw).setCell (show g≤g+2 by omega) _).setCell (show g≤g+2 by omega) _).setCell (show g≤g+2 by omega) _).setCell (show g≤g+2+1 by omega) _))
    have HRZ:=hid (show Ya wz g (some x) by
     rw [← hwz]
     refine ⟨?_,?_,?_,?_⟩
     ·exact Jf (Jf (Jf (Jf hG0.out (by omega)) (by omega)) (by omega)) (by omega)
     ·exact Jf (Jf (Jf (Jf hG1.out (by omega)) (by omega)) (by omega)) (by omega)
     ·exact (Jf (Jf (Jf hG3.out (by omega)) (by omega)) (by omega)).set 0 _
     ·exact Jf (((HA2.out.set 0 _).set 1 _).set 2 _) (by omega))
    have HWZ:=hid hwz
    clear hwz
    go_wp2
    go_ret
    first | rw [HWZ.out] | skip
    exact ⟨by rw [HNX.out];first | done | rfl,HBZ.out,fun _=>HRZ.out⟩
   ·have e0:decide ((0:Int)≤zc)=true:=decide_eq_true (by omega)
    have HNX:=hid (show JR (some a) x=2 by unfold JR;rw [Za,HLC.out,decide_eq_false hlt];simp [HZ.out])
    clear hlt HLC HCM
    go_wp2
    go_ret
    exact ⟨by rw [HNX.out];first | done | rfl,HB2.out.mono hgw,fun h=>absurd h (by rw [HNX.out];decide)⟩
 ·have e0:(QA x != 0)=true:=by simpa using hz
  have HNX:=hid (show JR p x=QA x by unfold JR;rw [if_pos hz])
  have HNZ:=hid hz
  clear hz
  generalize hwx:QA x=zx at *
  clear hwx
  go_enter Tryz.func75,Tryz.ntmps75
  go_upto_region 1 with fail
  rw [HW0.out]
  go_wp2_with fail
  refine HWR.out.mono ?_
  rintro e w1 ⟨rfl,hb1⟩
  have HB1:=hgo HB0 hb1
  clear hb1
  go_wp2
  go_ret
  exact ⟨by rw [HNX.out];first | done | rfl,HB1.out.mono hgw,fun h=>absurd h (by rw [HNX.out];exact HNZ.out)⟩
end Go.Proofs.YtbgdpfeobklnhaaGreatDoor
