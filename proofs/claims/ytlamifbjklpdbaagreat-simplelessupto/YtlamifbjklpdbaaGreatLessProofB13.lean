/-
  Parts of the proof.
-/
import Derived.Test.YtlamifbjklpdbaaGreatLessProofA0
import Derived.Test.YtlamifbjklpdbaaGreatLessProofB0
import Derived.Test.YtlamifbjklpdbaaGreatLessProofB12
import Derived.Test.YtlamifbjklpdbaaGreatLessProofB2
import Derived.Deep.WholeRow
import Derived.Test.YtlamifbjklpdbaaGreatLessProofB4
import Derived.Test.YtlamifbjklpdbaaGreatLessProofB3
import Derived.Test.YtlamifbjklpdbaaGreatLessProofB8
set_option linter.unusedSimpArgs false
set_option maxRecDepth 100000
set_option maxHeartbeats 8000000
namespace Go.Proofs.YtlamifbjklpdbaaGreat
open Go Go.RowKit
section
attribute [local go_sem] bU
def jR(c f:Bool)(L:List (Int×Int)):Prop:=IsC L (fun x=>In L x/\dQ c x)/\(f=true->∀ x,In L x↔jO L x)
theorem kI{c:Bool}{L:List (Int×Int)}(h:IsC L (fun x=>In L x/\dQ c x)):L.length<=600000:=aD3 (m:=c) h (fun _ q=>q.2)
theorem mX{w:World}{q:Option Addr}{k:Nat}{L:List (Int×Int)}(c f:Bool)(h:ArgR w (.slice q L.length k) L)(hF:Fit L)(hl:L.length+3<=8796093022208) :
  Calls Tryz.prog 84 #[.slice q L.length k,.agg #[.bool c,.bool f]] w fun e w'=>∃ r:Bool,e=.returned (.bool r)/\(r=true↔jR c f L)/\Below w.heap.size w w':=by
 have H:=aB h
 have B1:Hid (Below w.heap.size w (w.alloc (.cells #[.bool c,.bool f] 27))):=bz9
 have N1:=aD w (.cells #[.bool c,.bool f] 27)
 have m0:(w.alloc (.cells #[.bool c,.bool f] 27)).cell? ⟨w.heap.size,0,none⟩=some (.bool c):=aA N1 (i:=0) rfl
 clear h
 by_cases hc:IsC L (fun x=>In L x/\dQ c x)
 ·have hlen:=kI hc
  have HC:=aB hc
  have HR:Hid (∀ W:World,Below w.heap.size w W->Calls Tryz.prog 95 #[.slice q L.length k,.bool c] W fun e w'=>e=.returned (.bool true)/\Below W.heap.size W w'):=fun W hW=>(uL (m:=c) (H.out.kept hW) hF hl).mono fun e w' ⟨b,h1,h2,h3⟩=>⟨by rw [h1,h2.2 HC.out],h3⟩
  clear hc
  cases f with
  | false=>
   go_enter Tryz.func84,Tryz.ntmps84
   go_wp2_with (go_at_call 95;(with_reducible refine(HR.out _ B1.out).mono ?_);rintro e w2 ⟨rfl,h2⟩;have B2:Hid (Below w.heap.size w w2):=aF B1.out h2 lz9;have m1:w2.cell? ⟨w.heap.size,1,none⟩=some (.bool false):=(h2.cell (p:=⟨w.heap.size,1,none⟩) (aC N1)).trans (aA N1 (i:=1) rfl);clear h2)
   go_ret
   exact⟨true,rfl,by simp [jR,HC.out],B2.out⟩
  | true=>
   go_enter Tryz.func84,Tryz.ntmps84
   go_wp2_with first |(go_at_call 95;(with_reducible refine(HR.out _ B1.out).mono ?_);rintro e w2 ⟨rfl,h2⟩;have B2:Hid (Below w.heap.size w w2):=aF B1.out h2 lz9;have m1:w2.cell? ⟨w.heap.size,1,none⟩=some (.bool true):=(h2.cell (p:=⟨w.heap.size,1,none⟩) (aC N1)).trans (aA N1 (i:=1) rfl);clear h2) |(go_at_call 97;(with_reducible refine(aS5 (H.out.kept B2.out) hF (by omega)).mono ?_);rintro e w3 ⟨v3,C3,rfl,h31,h32,h33,h34⟩;obtain⟨q3,c3,rfl⟩:=h31.shape;have X3:Hid (RR w2.heap.size w3 (.slice q3 C3.length c3) C3/\IsC C3 (jO L)/\C3.length<=3*L.length+2/\Below w.heap.size w w3):=⟨h31,h32,h33,aF B2.out h34 lz9⟩;clear h31 h32 h33 h34) |(go_at_call 96;(with_reducible refine(aP7 (H.out.kept X3.out.2.2.2) X3.out.1.arg hF X3.out.2.1.fit (by omega) (by have:=X3.out.2.2.1;omega)).mono ?_);rintro e w4 ⟨r4,rfl,h41,h42⟩;have X4:Hid ((r4=true ↔ ∀ x,In L x↔In C3 x)/\Below w.heap.size w w4):=⟨h41,aF X3.out.2.2.2 h42 lz9⟩;clear h41 h42)
   go_ret
   refine⟨r4,rfl,?_,X4.out.2⟩
   rw [X4.out.1]
   unfold jR
   constructor
   ·intro h
    exact⟨HC.out,fun _ x=>(h x).trans (X3.out.2.1.mem x)⟩
   ·intro h x
    exact(h.2 rfl x).trans (X3.out.2.1.mem x).symm
 ·have HC:=aB hc
  have HR:Hid (∀ W:World,Below w.heap.size w W->Calls Tryz.prog 95 #[.slice q L.length k,.bool c] W fun e w'=>e=.returned (.bool false)/\Below W.heap.size W w'):=fun W hW=>(uL (m:=c) (H.out.kept hW) hF hl).mono fun e w' ⟨b,h1,h2,h3⟩=>⟨by
   cases b with
   | false=>exact h1
   | true=>exact absurd (h2.1 rfl) HC.out,h3⟩
  clear hc
  go_enter Tryz.func84,Tryz.ntmps84
  go_wp2_with (go_at_call 95;(with_reducible refine(HR.out _ B1.out).mono ?_);rintro e w2 ⟨rfl,h2⟩;have B2:Hid (Below w.heap.size w w2):=aF B1.out h2 lz9;clear h2)
  go_ret
  exact⟨false,rfl,by simp [jR,HC.out],B2.out⟩
def aP(c f:Bool)(g:Int)(F:Fl):Prop:=
 if F.k=2 then jR c f F.rs/\F.n=0/\F.mn=0/\F.mx=0
 else if F.k=7 then F.n=g/\F.mn=0/\F.mx=0/\F.rs.length=0
 else if F.k=8 then (1<=F.n/\F.n<=9)/\F.mn=0/\F.mx=0/\F.rs.length=0
 else if F.k=9 then eW F.mn F.mx=true/\F.n=0/\F.rs.length=0
 else F.n=0/\F.mn=0/\F.mx=0/\F.rs.length=0
theorem lE{n:Nat}{w W:World}(h:Below n w W){b:Nat}(hb:n<=b)(j:Nat)(u:Value)(hn:n<=w.heap.size):Below n w (W.setCell ⟨b,j,none⟩ u):=
 aX h (S:=fun z=>z=b) ((Fr.refl (fun z=>z=b) W).setCell (p:=⟨b,j,none⟩) rfl u) hn (fun k e=>by omega)
theorem nV{w:World}(F:Fl)(c f:Bool)(g:Int)(h:ArgR w (.slice F.rq F.rs.length F.rc) F.rs)(hF:Fit F.rs)(hl:F.rs.length+3<=8796093022208) :
  Calls Tryz.prog 63 #[.agg #[.int .i64 F.k,.int .i64 F.n,.int .i64 F.mn,.int .i64 F.mx,.slice F.rq F.rs.length F.rc,.slice F.kq F.kl F.kc],.agg #[.bool c,.bool f],.int .i64 g] w fun e w'=>∃ r:Bool,e=.returned (.bool r)/\(r=true↔aP c f g F)/\Below w.heap.size w w':=by
 obtain⟨r,hr⟩:∃ r:Bool,r=true↔aP c f g F:=⟨@decide (aP c f g F) (Classical.propDecidable _),by simp⟩
 suffices hs:Calls Tryz.prog 63 #[.agg #[.int .i64 F.k,.int .i64 F.n,.int .i64 F.mn,.int .i64 F.mx,.slice F.rq F.rs.length F.rc,.slice F.kq F.kl F.kc],.agg #[.bool c,.bool f],.int .i64 g] w fun e w'=>e=.returned (.bool r)/\Below w.heap.size w w' from hs.mono fun e w' ⟨h1,h2⟩=>⟨r,h1,hr,h2⟩
 have HR:=aB hr
 clear hr
 have B1:Hid (Below w.heap.size w ((w.alloc (.cells #[.int .i64 F.k,.int .i64 F.n,.int .i64 F.mn,.int .i64 F.mx,.slice F.rq F.rs.length F.rc,.slice F.kq F.kl F.kc] 25)).alloc (.cells #[.bool c,.bool f] 27))):=(bz9).alloc (by simp) _
 have N1:Hid (BoxN ((w.alloc (.cells #[.int .i64 F.k,.int .i64 F.n,.int .i64 F.mn,.int .i64 F.mx,.slice F.rq F.rs.length F.rc,.slice F.kq F.kl F.kc] 25)).alloc (.cells #[.bool c,.bool f] 27)) w.heap.size F):=(Below.heap_alloc _ _ _ (by simp)).trans (aD w _)
 have M1:Hid (((w.alloc (.cells #[.int .i64 F.k,.int .i64 F.n,.int .i64 F.mn,.int .i64 F.mx,.slice F.rq F.rs.length F.rc,.slice F.kq F.kl F.kc] 25)).alloc (.cells #[.bool c,.bool f] 27)).heap[w.heap.size+1]?=some (.cells #[.bool c,.bool f] 27 (0,0))):=(by
  have:=aD (w.alloc (.cells #[.int .i64 F.k,.int .i64 F.n,.int .i64 F.mn,.int .i64 F.mx,.slice F.rq F.rs.length F.rc,.slice F.kq F.kl F.kc] 25)) (.cells #[.bool c,.bool f] 27)
  rwa [m8] at this)
 have H:=aB h
 obtain⟨k,n,mn,mx,rs,rq,rc,kq,kl,kc⟩:=F
 dsimp only at *
 have m0:((w.alloc (.cells #[.int .i64 k,.int .i64 n,.int .i64 mn,.int .i64 mx,.slice rq rs.length rc,.slice kq kl kc] 25)).alloc (.cells #[.bool c,.bool f] 27)).cell? ⟨w.heap.size+1,0,none⟩=some (.bool c):=aA M1.out (i:=0) rfl
 have m1:((w.alloc (.cells #[.int .i64 k,.int .i64 n,.int .i64 mn,.int .i64 mx,.slice rq rs.length rc,.slice kq kl kc] 25)).alloc (.cells #[.bool c,.bool f] 27)).cell? ⟨w.heap.size+1,1,none⟩=some (.bool f):=aA M1.out (i:=1) rfl
 obtain⟨c0,c1,c2,c3,c4,c5⟩:=N1.out.six
 simp only [a7] at c1 c2 c3 c4 c5
 have fz:=fun j=>aJ N1.out j
 have ln:=aC N1.out
 clear h
 by_cases k2:k=2
 ·subst k2
  by_cases z0:jR c f rs
  ·have HS:Hid (∀ W:World,Below w.heap.size w W->Calls Tryz.prog 84 #[.slice rq rs.length rc,.agg #[.bool c,.bool f]] W fun e w'=>e=.returned (.bool true)/\Below W.heap.size W w'):=fun W hW=>(mX c f (H.out.kept hW) hF hl).mono fun e w' ⟨b,h1,h2,h3⟩=>⟨by rw [h1];cases b <;> simp_all,h3⟩
   by_cases z1:n=0
   ·subst z1
    by_cases z2:mn=0
    ·subst z2
     by_cases z3:mx=0
     ·subst z3
      have R:r=true:=HR.out.2 (by unfold aP;simp_all)
      subst R
      go_enter Tryz.func63,Tryz.ntmps63
      go_wp2_with (go_at_call 84;(with_reducible refine(HS.out _ B1.out).mono ?_);rintro e w2 ⟨rfl,h2⟩;have B2:Hid (Below w.heap.size w (w2.setCell ⟨w.heap.size,4,none⟩ (.slice none 0 0))):=lE (aF B1.out h2 lz9) lz9 _ _ lz9;have N2:BoxN w2 w.heap.size _:=(h2.block _ (aC N1.out)).trans N1.out;obtain⟨d0,d1,d2,d3,d4,d5⟩:=N2.six;simp only [a7] at d1 d2 d3 d4 d5;have gz:=aJ N2 4;have p1:=aE (j:=4) (u:=.slice none 0 0) d1 (by decide);have p2:=aE (j:=4) (u:=.slice none 0 0) d2 (by decide);have p3:=aE (j:=4) (u:=.slice none 0 0) d3 (by decide);have p4:=j9 w2 ⟨w.heap.size,4,none⟩ (.slice none 0 0) d4;have ln2:=aC N2;clear h2 N2)
      go_ret
      exact⟨rfl,B2.out⟩
     ·have R:r=false:=(by cases r with | false=>rfl | true=>exact absurd (HR.out.1 rfl) (by unfold aP;simp_all <;> omega))
      subst R
      have ez3:(mx==0)=false:=by simpa using z3
      go_enter Tryz.func63,Tryz.ntmps63
      go_wp2_with (go_at_call 84;(with_reducible refine(HS.out _ B1.out).mono ?_);rintro e w2 ⟨rfl,h2⟩;have B2:Hid (Below w.heap.size w (w2.setCell ⟨w.heap.size,4,none⟩ (.slice none 0 0))):=lE (aF B1.out h2 lz9) lz9 _ _ lz9;have N2:BoxN w2 w.heap.size _:=(h2.block _ (aC N1.out)).trans N1.out;obtain⟨d0,d1,d2,d3,d4,d5⟩:=N2.six;simp only [a7] at d1 d2 d3 d4 d5;have gz:=aJ N2 4;have p1:=aE (j:=4) (u:=.slice none 0 0) d1 (by decide);have p2:=aE (j:=4) (u:=.slice none 0 0) d2 (by decide);have p3:=aE (j:=4) (u:=.slice none 0 0) d3 (by decide);have p4:=j9 w2 ⟨w.heap.size,4,none⟩ (.slice none 0 0) d4;have ln2:=aC N2;clear h2 N2)
      go_ret
      exact⟨rfl,B2.out⟩
    ·have R:r=false:=(by cases r with | false=>rfl | true=>exact absurd (HR.out.1 rfl) (by unfold aP;simp_all <;> omega))
     subst R
     have ez2:(mn==0)=false:=by simpa using z2
     go_enter Tryz.func63,Tryz.ntmps63
     go_wp2_with (go_at_call 84;(with_reducible refine(HS.out _ B1.out).mono ?_);rintro e w2 ⟨rfl,h2⟩;have B2:Hid (Below w.heap.size w (w2.setCell ⟨w.heap.size,4,none⟩ (.slice none 0 0))):=lE (aF B1.out h2 lz9) lz9 _ _ lz9;have N2:BoxN w2 w.heap.size _:=(h2.block _ (aC N1.out)).trans N1.out;obtain⟨d0,d1,d2,d3,d4,d5⟩:=N2.six;simp only [a7] at d1 d2 d3 d4 d5;have gz:=aJ N2 4;have p1:=aE (j:=4) (u:=.slice none 0 0) d1 (by decide);have p2:=aE (j:=4) (u:=.slice none 0 0) d2 (by decide);have p3:=aE (j:=4) (u:=.slice none 0 0) d3 (by decide);have p4:=j9 w2 ⟨w.heap.size,4,none⟩ (.slice none 0 0) d4;have ln2:=aC N2;clear h2 N2)
     go_ret
     exact⟨rfl,B2.out⟩
   ·have R:r=false:=(by cases r with | false=>rfl | true=>exact absurd (HR.out.1 rfl) (by unfold aP;simp_all <;> omega))
    subst R
    have ez1:(n==0)=false:=by simpa using z1
    go_enter Tryz.func63,Tryz.ntmps63
    go_wp2_with (go_at_call 84;(with_reducible refine(HS.out _ B1.out).mono ?_);rintro e w2 ⟨rfl,h2⟩;have B2:Hid (Below w.heap.size w (w2.setCell ⟨w.heap.size,4,none⟩ (.slice none 0 0))):=lE (aF B1.out h2 lz9) lz9 _ _ lz9;have N2:BoxN w2 w.heap.size _:=(h2.block _ (aC N1.out)).trans N1.out;obtain⟨d0,d1,d2,d3,d4,d5⟩:=N2.six;simp only [a7] at d1 d2 d3 d4 d5;have gz:=aJ N2 4;have p1:=aE (j:=4) (u:=.slice none 0 0) d1 (by decide);have p2:=aE (j:=4) (u:=.slice none 0 0) d2 (by decide);have p3:=aE (j:=4) (u:=.slice none 0 0) d3 (by decide);have p4:=j9 w2 ⟨w.heap.size,4,none⟩ (.slice none 0 0) d4;have ln2:=aC N2;clear h2 N2)
    go_ret
    exact⟨rfl,B2.out⟩
  ·have HS:Hid (∀ W:World,Below w.heap.size w W->Calls Tryz.prog 84 #[.slice rq rs.length rc,.agg #[.bool c,.bool f]] W fun e w'=>e=.returned (.bool false)/\Below W.heap.size W w'):=fun W hW=>(mX c f (H.out.kept hW) hF hl).mono fun e w' ⟨b,h1,h2,h3⟩=>⟨by rw [h1];cases b <;> simp_all,h3⟩
   have R:r=false:=(by cases r with | false=>rfl | true=>exact absurd (HR.out.1 rfl) (by unfold aP;simp_all))
   subst R
   go_enter Tryz.func63,Tryz.ntmps63
   go_wp2_with (go_at_call 84;(with_reducible refine(HS.out _ B1.out).mono ?_);rintro e w2 ⟨rfl,h2⟩;have B2:Hid (Below w.heap.size w (w2.setCell ⟨w.heap.size,4,none⟩ (.slice none 0 0))):=lE (aF B1.out h2 lz9) lz9 _ _ lz9;have N2:BoxN w2 w.heap.size _:=(h2.block _ (aC N1.out)).trans N1.out;obtain⟨d0,d1,d2,d3,d4,d5⟩:=N2.six;simp only [a7] at d1 d2 d3 d4 d5;have gz:=aJ N2 4;have p1:=aE (j:=4) (u:=.slice none 0 0) d1 (by decide);have p2:=aE (j:=4) (u:=.slice none 0 0) d2 (by decide);have p3:=aE (j:=4) (u:=.slice none 0 0) d3 (by decide);have p4:=j9 w2 ⟨w.heap.size,4,none⟩ (.slice none 0 0) d4;have ln2:=aC N2;clear h2 N2)
   go_ret
   exact⟨rfl,B2.out⟩
 ·have eb2:(k==2)=false:=by simpa using k2
  by_cases k7:k=7
  ·subst k7
   have p1:=j9 _ _ (.int .i64 0) c1
   have p2:=aE (j:=1) (u:=.int .i64 0) c2 (by decide)
   have p3:=aE (j:=1) (u:=.int .i64 0) c3 (by decide)
   have p4:=aE (j:=1) (u:=.int .i64 0) c4 (by decide)
   by_cases z0:n=g
   ·subst z0
    by_cases z2:mn=0
    ·subst z2
     by_cases z3:mx=0
     ·subst z3
      by_cases z4:rs.length=0
      ·obtain rfl:=n8 z4
       have R:r=true:=HR.out.2 (by unfold aP;simp_all)
       subst R
       go_enter Tryz.func63,Tryz.ntmps63
       go_wp2
       go_ret
       exact⟨rfl,(bz9).alloc (by simp) _⟩
      ·have R:r=false:=(by cases r with | false=>rfl | true=>exact absurd (HR.out.1 rfl) (by unfold aP;simp_all <;> omega))
       subst R
       have el:((rs.length:Int)==0)=false:=by simpa using z4
       go_enter Tryz.func63,Tryz.ntmps63
       go_wp2
       go_ret
       exact⟨rfl,(bz9).alloc (by simp) _⟩
     ·have R:r=false:=(by cases r with | false=>rfl | true=>exact absurd (HR.out.1 rfl) (by unfold aP;simp_all <;> omega))
      subst R
      have ez3:(mx==0)=false:=by simpa using z3
      go_enter Tryz.func63,Tryz.ntmps63
      go_wp2
      go_ret
      exact⟨rfl,(bz9).alloc (by simp) _⟩
    ·have R:r=false:=(by cases r with | false=>rfl | true=>exact absurd (HR.out.1 rfl) (by unfold aP;simp_all <;> omega))
     subst R
     have ez2:(mn==0)=false:=by simpa using z2
     go_enter Tryz.func63,Tryz.ntmps63
     go_wp2
     go_ret
     exact⟨rfl,(bz9).alloc (by simp) _⟩
   ·have R:r=false:=(by cases r with | false=>rfl | true=>exact absurd (HR.out.1 rfl) (by unfold aP;simp_all <;> omega))
    subst R
    have e0:(n==g)=false:=by simpa using z0
    go_enter Tryz.func63,Tryz.ntmps63
    go_wp2
    go_ret
    exact⟨rfl,(bz9).alloc (by simp) _⟩
  ·have eb7:(k==7)=false:=by simpa using k7
   by_cases k8:k=8
   ·subst k8
    have p1:=j9 _ _ (.int .i64 0) c1
    have p2:=aE (j:=1) (u:=.int .i64 0) c2 (by decide)
    have p3:=aE (j:=1) (u:=.int .i64 0) c3 (by decide)
    have p4:=aE (j:=1) (u:=.int .i64 0) c4 (by decide)
    by_cases z0:1<=n
    ·skip
     by_cases z1:n<=9
     ·skip
      by_cases z2:mn=0
      ·subst z2
       by_cases z3:mx=0
       ·subst z3
        by_cases z4:rs.length=0
        ·obtain rfl:=n8 z4
         have R:r=true:=HR.out.2 (by unfold aP;simp_all)
         subst R
         go_enter Tryz.func63,Tryz.ntmps63
         go_wp2
         go_ret
         exact⟨rfl,(bz9).alloc (by simp) _⟩
        ·have R:r=false:=(by cases r with | false=>rfl | true=>exact absurd (HR.out.1 rfl) (by unfold aP;simp_all <;> omega))
         subst R
         have el:((rs.length:Int)==0)=false:=by simpa using z4
         go_enter Tryz.func63,Tryz.ntmps63
         go_wp2
         go_ret
         exact⟨rfl,(bz9).alloc (by simp) _⟩
       ·have R:r=false:=(by cases r with | false=>rfl | true=>exact absurd (HR.out.1 rfl) (by unfold aP;simp_all <;> omega))
        subst R
        have ez3:(mx==0)=false:=by simpa using z3
        go_enter Tryz.func63,Tryz.ntmps63
        go_wp2
        go_ret
        exact⟨rfl,(bz9).alloc (by simp) _⟩
      ·have R:r=false:=(by cases r with | false=>rfl | true=>exact absurd (HR.out.1 rfl) (by unfold aP;simp_all <;> omega))
       subst R
       have ez2:(mn==0)=false:=by simpa using z2
       go_enter Tryz.func63,Tryz.ntmps63
       go_wp2
       go_ret
       exact⟨rfl,(bz9).alloc (by simp) _⟩
     ·have R:r=false:=(by cases r with | false=>rfl | true=>exact absurd (HR.out.1 rfl) (by unfold aP;simp_all <;> omega))
      subst R
      go_enter Tryz.func63,Tryz.ntmps63
      go_wp2
      go_ret
      exact⟨rfl,(bz9).alloc (by simp) _⟩
    ·have R:r=false:=(by cases r with | false=>rfl | true=>exact absurd (HR.out.1 rfl) (by unfold aP;simp_all <;> omega))
     subst R
     go_enter Tryz.func63,Tryz.ntmps63
     go_wp2
     go_ret
     exact⟨rfl,(bz9).alloc (by simp) _⟩
   ·have eb8:(k==8)=false:=by simpa using k8
    by_cases k9:k=9
    ·subst k9
     have p2:=aE (j:=3) (u:=.int .i64 0) (j9 _ _ (.int .i64 0) c2) (by decide)
     have q3:=aE (j:=2) (u:=.int .i64 0) c3 (by decide)
     have p3:=j9 _ _ (.int .i64 0) q3
     have p1:=aE (j:=3) (u:=.int .i64 0) (aE (j:=2) (u:=.int .i64 0) c1 (by decide)) (by decide)
     have p4:=aE (j:=3) (u:=.int .i64 0) (aE (j:=2) (u:=.int .i64 0) c4 (by decide)) (by decide)
     have HB:=aB (nX mn mx)
     obtain⟨bb,hbb⟩:∃ bb,eW mn mx=bb:=⟨_,rfl⟩
     rw [hbb] at HB
     cases bb with
     | true=>
      by_cases z1:n=0
      ·subst z1
       by_cases z4:rs.length=0
       ·obtain rfl:=n8 z4
        have R:r=true:=HR.out.2 (by unfold aP;simp_all)
        subst R
        go_enter Tryz.func63,Tryz.ntmps63
        go_wp2_with (go_at_call 85;(with_reducible refine(HB.out _).mono ?_);rintro e w5 ⟨rfl,h5⟩;subst w5)
        go_ret
        exact⟨rfl,(bz9).alloc (by simp) _⟩
       ·have R:r=false:=(by cases r with | false=>rfl | true=>exact absurd (HR.out.1 rfl) (by unfold aP;simp_all <;> omega))
        subst R
        have el:((rs.length:Int)==0)=false:=by simpa using z4
        go_enter Tryz.func63,Tryz.ntmps63
        go_wp2_with (go_at_call 85;(with_reducible refine(HB.out _).mono ?_);rintro e w5 ⟨rfl,h5⟩;subst w5)
        go_ret
        exact⟨rfl,(bz9).alloc (by simp) _⟩
      ·have R:r=false:=(by cases r with | false=>rfl | true=>exact absurd (HR.out.1 rfl) (by unfold aP;simp_all <;> omega))
       subst R
       have ez1:(n==0)=false:=by simpa using z1
       go_enter Tryz.func63,Tryz.ntmps63
       go_wp2_with (go_at_call 85;(with_reducible refine(HB.out _).mono ?_);rintro e w5 ⟨rfl,h5⟩;subst w5)
       go_ret
       exact⟨rfl,(bz9).alloc (by simp) _⟩
     | false=>
      have R:r=false:=(by cases r with | false=>rfl | true=>exact absurd (HR.out.1 rfl) (by unfold aP;simp_all))
      subst R
      go_enter Tryz.func63,Tryz.ntmps63
      go_wp2_with (go_at_call 85;(with_reducible refine(HB.out _).mono ?_);rintro e w5 ⟨rfl,h5⟩;subst w5)
      go_ret
      exact⟨rfl,(bz9).alloc (by simp) _⟩
    ·have eb9:(k==9)=false:=by simpa using k9
     by_cases z1:n=0
     ·subst z1
      by_cases z2:mn=0
      ·subst z2
       by_cases z3:mx=0
       ·subst z3
        by_cases z4:rs.length=0
        ·obtain rfl:=n8 z4
         have R:r=true:=HR.out.2 (by unfold aP;simp_all)
         subst R
         go_enter Tryz.func63,Tryz.ntmps63
         go_wp2
         go_ret
         exact⟨rfl,B1.out⟩
        ·have R:r=false:=(by cases r with | false=>rfl | true=>exact absurd (HR.out.1 rfl) (by unfold aP;simp_all <;> omega))
         subst R
         have el:((rs.length:Int)==0)=false:=by simpa using z4
         go_enter Tryz.func63,Tryz.ntmps63
         go_wp2
         go_ret
         exact⟨rfl,B1.out⟩
       ·have R:r=false:=(by cases r with | false=>rfl | true=>exact absurd (HR.out.1 rfl) (by unfold aP;simp_all <;> omega))
        subst R
        have ez3:(mx==0)=false:=by simpa using z3
        go_enter Tryz.func63,Tryz.ntmps63
        go_wp2
        go_ret
        exact⟨rfl,B1.out⟩
      ·have R:r=false:=(by cases r with | false=>rfl | true=>exact absurd (HR.out.1 rfl) (by unfold aP;simp_all <;> omega))
       subst R
       have ez2:(mn==0)=false:=by simpa using z2
       go_enter Tryz.func63,Tryz.ntmps63
       go_wp2
       go_ret
       exact⟨rfl,B1.out⟩
     ·have R:r=false:=(by cases r with | false=>rfl | true=>exact absurd (HR.out.1 rfl) (by unfold aP;simp_all <;> omega))
      subst R
      have ez1:(n==0)=false:=by simpa using z1
      go_enter Tryz.func63,Tryz.ntmps63
      go_wp2
      go_ret
      exact⟨rfl,B1.out⟩
end
section
attribute [local go_sem] bU
def pR:Fl:=⟨0,0,0,0,[],none,0,none,0,0⟩
def SA(A:Nat->cW):Way->Prop
 | []=>(A 0).f=pR
 |(par,i) :: rest=>A (rest.length+1)=⟨par.f,(i:Int)+1⟩/\SA A rest
def BA(A:Nat->cW):Way->Prop
 | []=>(A 0).f=pR
 |(par,i) :: rest=>A (rest.length+1)=⟨par.f,(i:Int)⟩/\SA A rest
theorem SA.tail{A:Nat->cW}:∀ {s rest:Way} {x:Tr×Nat},SA A (s++x :: rest)->A (rest.length+1)=⟨x.1.f,(x.2:Int)+1⟩/\SA A rest
 | [],_,_,h=>h
 | _ :: s,_,_,h=>SA.tail (s:=s) h.2
theorem SA.same{A B:Nat->cW}:∀ {p:Way},SA A p->(∀ i,i<=p.length->B i=A i)->SA B p
 | [],h,hb=>by unfold SA at *;rw [hb 0 lz9];exact h
 |(par,i) :: rest,h,hb=>⟨by rw [hb _ (by simp)];exact h.1,h.2.same fun i hi=>hb i (by simp;omega)⟩
theorem BA.next{A:Nat->cW}{x y:El}(h:Nx x y)(hs:SA A x.1)(hx:A (x.1.length+1)=⟨x.2.f,0⟩):BA A y.1:=by
 obtain⟨par,j,rest,e,(⟨rfl,rfl,rfl⟩ | ⟨s,i,e2,rfl⟩)⟩:=h
 ·rw [e]
  exact⟨hx,hs⟩
 ·rw [e]
  rw [e2] at hs
  exact hs.tail
def eY(A:Nat->cW)(d:Nat)(f:Fl):Nat->cW:=lM (lM A d ⟨(A d).f,(A d).s+1⟩) (d+1) ⟨f,0⟩
theorem SA.enter{A:Nat->cW}{p:Way}{f:Fl}(h:BA A p):SA (eY A p.length f) p/\eY A p.length f (p.length+1)=⟨f,0⟩:=by
 refine⟨?_,by simp [eY,lM]⟩
 cases p with
 | nil=>simp only [SA,eY,lM,List.length_nil];exact h
 | cons x rest=>
  obtain⟨par,i⟩:=x
  refine⟨?_,h.2.same fun i hi=>?_⟩
  ·simp only [eY,lM,i9]
   rw [if_neg (by omega),if_pos trivial,h.1]
  ·simp only [eY,lM,i9]
   rw [if_neg (by omega),if_neg (by omega)]
def eZ(p:Way)(num:Int):Bool:=p.any fun x=>x.1.f.k==7&&x.1.f.n==num
theorem SA.inEq{A:Nat->cW}{num:Int}:∀ {p:Way},SA A p->inB A (p.length+1) num=eZ p num
 | [],h=>by
  unfold SA at h
  rw [kX]
  simp [inB,eZ,h,pR]
 |(par,i) :: rest,h=>by
  rw [i9,kX,h.2.inEq,h.1]
  simp only [eZ,aAI]
  rw [Bool.or_comm]
theorem BA.inEq{A:Nat->cW}{num:Int}:∀ {p:Way},BA A p->inB A (p.length+1) num=eZ p num
 | [],h=>SA.inEq (p:=[]) h
 |(par,i) :: rest,h=>by
  rw [i9,kX,h.2.inEq,h.1]
  simp only [eZ,aAI]
  rw [Bool.or_comm]
def bL(p:Way)(k:Int):Bool:=match p with
 | []=>cG k
 |(par,i) :: _=>cK par.f.k (i:Int) par.ks.length k
theorem BA.stand{A:Nat->cW}{k:Int}:∀ {p:Way},BA A p->(∀ x∈p,x.1.f.kl=x.1.ks.length)->cK (A p.length).f.k (A p.length).s (A p.length).f.kl k=bL p k
 | [],h,_=>by
  unfold BA at h
  simp [cK,bL,h,pR]
 |(par,i) :: rest,h,hk=>by
  rw [i9,h.1]
  simp only [bL]
  rw [hk (par,i) (g7 ..)]
open Classical in
noncomputable def bN (c f:Bool) (p:Way) (t:Tr) (ah gr:Nat):Int:=
 if ah=2000 then 42 else if 40<p.length+1 then 43
 else if ¬ (bL p t.f.k=true/\aP c f ((gr:Int)+1) t.f/\dL t.f.k t.ks.length=true) then 50
 else if t.f.k=7/\30<t.f.n then 42
 else if t.f.k=8/\¬ (eZ p t.f.n=false/\t.f.n<=(gr:Int)) then 41 else 0
theorem nW{w:World}(F:Fl)(c f:Bool)(g:Int){r:Bool}(hr:r=true↔aP c f g F)(h:ArgR w (.slice F.rq F.rs.length F.rc) F.rs)(hF:Fit F.rs)(hl:F.rs.length+3<=8796093022208) :
  Calls Tryz.prog 63 #[.agg #[.int .i64 F.k,.int .i64 F.n,.int .i64 F.mn,.int .i64 F.mx,.slice F.rq F.rs.length F.rc,.slice F.kq F.kl F.kc],.agg #[.bool c,.bool f],.int .i64 g] w fun e w'=>e=.returned (.bool r)/\Below w.heap.size w w':=
 (nV F c f g h hF hl).mono fun e w' ⟨b,h1,h2,h3⟩=>⟨by rw [h1];congr 2;rw [Bool.eq_iff_iff,h2,hr],h3⟩
def aE2(w:World)(b:Nat)(c f:Bool)(A:Nat->cW)(p:Way)(t:Tr)(ah gr:Nat)(e:Ending)(w':World):Prop:=
 e=.returned (.int .i64 (bN c f p t ah gr))/\(bN c f p t ah gr=0->CB w' b c f ((ah:Int)+1) ((gr:Int)+(if t.f.k=7 then 1 else 0)) (eY A p.length t.f))/\Fr (fun z=>z=b) w w'
theorem aR3{w:World}{b:Nat}{c f:Bool}{ah gr:Nat}{A:Nat->cW}{p:Way}{t:Tr}(h:CB w b c f (ah:Int) (gr:Int) A)(hb:BA A p)(hk:∀ x∈p,x.1.f.kl=x.1.ks.length)(hl:(A p.length).f.kl<=9223372036854775807)(hs:0<=(A p.length).s/\(A p.length).s<=1000000)(hn:NB w t)(ha:ah<=2000)(hg:gr<=2000)(hp:p.length<=1000000) :
  Calls Tryz.prog 39 #[.pointer (some ⟨b,0,none⟩),.int .i64 ((p.length:Int)+1),.agg #[.int .i64 t.f.k,.int .i64 t.f.n,.int .i64 t.f.mn,.int .i64 t.f.mx,.slice t.f.rq t.f.rs.length t.f.rc,.slice t.f.kq t.f.kl t.f.kc]] w (aE2 w b c f A p t ah gr):=by
 obtain⟨m,hm⟩:∃ m,bN c f p t ah gr=m:=⟨_,rfl⟩
 have HM:=aB hm
 have H:=aB h
 have HB:=aB hb
 have HN:=aB hn
 have HKK:=aB hk
 have HSS:=aB hs
 have HLL:=aB hl
 have B1:Hid (Below w.heap.size w (w.alloc (.cells #[.int .i64 t.f.k,.int .i64 t.f.n,.int .i64 t.f.mn,.int .i64 t.f.mx,.slice t.f.rq t.f.rs.length t.f.rc,.slice t.f.kq t.f.kl t.f.kc] 25))):=bz9
 have N1:Hid (BoxN (w.alloc (.cells #[.int .i64 t.f.k,.int .i64 t.f.n,.int .i64 t.f.mn,.int .i64 t.f.mx,.slice t.f.rq t.f.rs.length t.f.rc,.slice t.f.kq t.f.kl t.f.kc] 25)) w.heap.size t.f):=aD w _
 have H1:Hid (CB (w.alloc (.cells #[.int .i64 t.f.k,.int .i64 t.f.n,.int .i64 t.f.mn,.int .i64 t.f.mx,.slice t.f.rq t.f.rs.length t.f.rc,.slice t.f.kq t.f.kl t.f.kc] 25)) b c f (ah:Int) (gr:Int) A):=h.kept B1.out
 have A1:Hid (NB (w.alloc (.cells #[.int .i64 t.f.k,.int .i64 t.f.n,.int .i64 t.f.mn,.int .i64 t.f.mx,.slice t.f.rq t.f.rs.length t.f.rc,.slice t.f.kq t.f.kl t.f.kc] 25)) t):=hn.ck (CK.of_below B1.out)
 have F1:Hid (Fr (fun z=>z=b) w (w.alloc (.cells #[.int .i64 t.f.k,.int .i64 t.f.n,.int .i64 t.f.mn,.int .i64 t.f.mx,.slice t.f.rq t.f.rs.length t.f.rc,.slice t.f.kq t.f.kl t.f.kc] 25))):=Fr.of_below B1.out
 have hne:w.heap.size≠b:=by have:=h.lt;omega
 unfold bN at hm
 clear h hb hn hk hs hl
 by_cases h1:ah=2000
 ·rw [if_pos h1] at hm
  subst hm h1
  have c2:=H1.out.c2
  have lb:=H1.out.lt
  go_enter Tryz.func39,Tryz.ntmps39
  go_wp2
  go_ret
  exact⟨by rw [HM.out];rfl,fun z=>(by rw [HM.out] at z;cases z),F1.out⟩
 ·rw [if_neg h1] at hm
  have h1b:(((ah:Int))==2000)=false:=by simp;omega
  by_cases h2:40<p.length+1
  ·rw [if_pos h2] at hm
   subst hm
   have c2:=H1.out.c2
   have lb:=H1.out.lt
   have h2b:(40:Int)<(p.length:Int)+1:=by omega
   go_enter Tryz.func39,Tryz.ntmps39
   go_wp2
   go_ret
   exact⟨by rw [HM.out];rfl,fun z=>(by rw [HM.out] at z;cases z),F1.out⟩
  ·rw [if_neg h2] at hm
   have h2b:¬ (40:Int)<(p.length:Int)+1:=by omega
   have c0:=H1.out.c0
   have c1:=H1.out.c1
   have c2:=H1.out.c2
   have c3:=H1.out.c3
   have lb:=H1.out.lt
   obtain⟨n0,n1,n2,n3,n4,n5⟩:=N1.out.six
   simp only [a7] at n1 n2 n3 n4 n5
   have ln:=aC N1.out
   have HMM:=aB hm
   clear hm
   go_enter Tryz.func39,Tryz.ntmps39
   go_upto_region 5 with fail
   generalize (w.alloc (.cells #[.int .i64 t.f.k,.int .i64 t.f.n,.int .i64 t.f.mn,.int .i64 t.f.mx,.slice t.f.rq t.f.rs.length t.f.rc,.slice t.f.kq t.f.kl t.f.kc] 25))=w1 at *
   have e41:p.length<41:=by omega
   obtain⟨sb,hsb⟩:∃ sb,bL p t.f.k=sb:=⟨_,rfl⟩
   obtain⟨rf,hrf⟩:∃ rf:Bool,rf=true↔aP c f ((gr:Int)+1) t.f:=⟨@decide (aP c f ((gr:Int)+1) t.f) (Classical.propDecidable _),by simp⟩
   obtain⟨kb,hkb⟩:∃ kb,dL t.f.k t.ks.length=kb:=⟨_,rfl⟩
   have MS:Hid (∀ z:Ext w1,Calls Tryz.prog 62 #[.pointer (some ⟨b,0,none⟩),.int .i64 ((p.length:Int)+1),.int .i64 t.f.k] z.val fun e w''=>e=.returned (.bool sb)/\∃ y:Ext w1,w''=y.val):=fun z=>dH ((tO (H1.out.kept (cP z)) e41 t.f.k HLL.out).mono fun e w' ⟨h1,h2⟩=>⟨by rw [h1,HB.out.stand HKK.out,hsb],h2⟩)
   have RF:Hid (∀ z:Ext w1,Calls Tryz.prog 63 #[.agg #[.int .i64 t.f.k,.int .i64 t.f.n,.int .i64 t.f.mn,.int .i64 t.f.mx,.slice t.f.rq t.f.rs.length t.f.rc,.slice t.f.kq t.f.kl t.f.kc],.agg #[.bool c,.bool f],.int .i64 ((gr:Int)+1)] z.val fun e w''=>e=.returned (.bool rf)/\∃ y:Ext w1,w''=y.val):=fun z=>dH (nW t.f c f _ hrf (A1.out.r.kept (cP z)) A1.out.fit A1.out.len)
   have RK:Hid (∀ z:Ext w1,Calls Tryz.prog 64 #[.agg #[.int .i64 t.f.k,.int .i64 t.f.n,.int .i64 t.f.mn,.int .i64 t.f.mx,.slice t.f.rq t.f.rs.length t.f.rc,.slice t.f.kq t.f.kl t.f.kc]] z.val fun e w''=>e=.returned (.bool kb)/\∃ y:Ext w1,w''=y.val):=fun z=>dH ((qV t.f z.val).mono fun e w' ⟨h1,h2⟩=>⟨by rw [h1,A1.out.kl,hkb],h2⟩)
   have HX:=aB (⟨hsb,hrf,hkb⟩:bL p t.f.k=sb/\(rf=true↔aP c f ((gr:Int)+1) t.f)/\dL t.f.k t.ks.length=kb)
   clear hsb hrf hkb
   cases sb with
   | false=>
    have E:=HMM.out
    rw [if_pos (by rw [HX.out.1];simp)] at E
    subst E
    refine wx9 ?_
    repeat (go_big_quiet_step (first | exact rfl |(go_at_call 62;with_reducible exact MS.out _) |(go_at_call 63;with_reducible exact RF.out _) |(go_at_call 64;with_reducible exact RK.out _)))
    refine wpQuiet_nil ?_
    intro w2 hw
    have hb2:=aS hw
    clear hw
    have F2:Hid (Fr (fun z=>z=b) w w2):=F1.out.trans (Fr.of_below hb2)
    clear hb2 MS RF RK
    go_wp2
    go_ret
    exact⟨by rw [HM.out];rfl,fun z=>(by rw [HM.out] at z;cases z),F2.out⟩
   | true=>
    cases rf with
    | false=>
     have E:=HMM.out
     rw [if_pos (fun z=>by have:=HX.out.2.1.2 z.2.1;cases this)] at E
     subst E
     refine wx9 ?_
     repeat (go_big_quiet_step (first | exact rfl |(go_at_call 62;with_reducible exact MS.out _) |(go_at_call 63;with_reducible exact RF.out _) |(go_at_call 64;with_reducible exact RK.out _)))
     refine wpQuiet_nil ?_
     intro w2 hw
     have hb2:=aS hw
     clear hw
     have F2:Hid (Fr (fun z=>z=b) w w2):=F1.out.trans (Fr.of_below hb2)
     clear hb2 MS RF RK
     go_wp2
     go_ret
     exact⟨by rw [HM.out];rfl,fun z=>(by rw [HM.out] at z;cases z),F2.out⟩
    | true=>
     cases kb with
     | false=>
      have E:=HMM.out
      rw [if_pos (fun z=>by have:=HX.out.2.2;rw [z.2.2] at this;cases this)] at E
      subst E
      refine wx9 ?_
      repeat (go_big_quiet_step (first | exact rfl |(go_at_call 62;with_reducible exact MS.out _) |(go_at_call 63;with_reducible exact RF.out _) |(go_at_call 64;with_reducible exact RK.out _)))
      refine wpQuiet_nil ?_
      intro w2 hw
      have hb2:=aS hw
      clear hw
      have F2:Hid (Fr (fun z=>z=b) w w2):=F1.out.trans (Fr.of_below hb2)
      clear hb2 MS RF RK
      go_wp2
      go_ret
      exact⟨by rw [HM.out];rfl,fun z=>(by rw [HM.out] at z;cases z),F2.out⟩
     | true=>
      have E:=HMM.out
      rw [if_neg (fun z=>z ⟨HX.out.1,HX.out.2.1.1 rfl,HX.out.2.2⟩)] at E
      refine wx9 ?_
      repeat (go_big_quiet_step (first | exact rfl |(go_at_call 62;with_reducible exact MS.out _) |(go_at_call 63;with_reducible exact RF.out _) |(go_at_call 64;with_reducible exact RK.out _)))
      refine wpQuiet_nil ?_
      intro w2 hw
      have hb2:=aS hw
      clear hw
      have F2:Hid (Fr (fun z=>z=b) w w2):=F1.out.trans (Fr.of_below hb2)
      have H2:=aB (H1.out.kept hb2)
      have N2:Hid (BoxN w2 w.heap.size t.f):=(hb2.block _ (aC N1.out)).trans N1.out
      clear hb2 MS RF RK n0 n1 n2 n3 n4 n5 c0 c1 c2 c3 lb ln H1 N1 F1
      obtain⟨n0,n1,n2,n3,n4,n5⟩:=N2.out.six
      simp only [a7] at n1 n2 n3 n4 n5
      have XX:=H2
      have FF:=F2
      by_cases k7:t.f.k=7
      ·have e7:(t.f.k==7)=true:=by simpa using k7
       have e8:(t.f.k==8)=false:=by simp [k7]
       by_cases g30:30<t.f.n
       ·rw [if_pos ⟨k7,g30⟩] at E
        subst E
        clear k7
        go_wp2
        go_ret
        exact⟨by rw [HM.out];rfl,fun z=>(by rw [HM.out] at z;cases z),F2.out⟩
       ·rw [if_neg (fun z=>g30 z.2),if_neg (fun z=>by have:=z.1;omega)] at E
        subst E
        clear k7
        go_wp2_with (go_at_call 66;(with_reducible refine(qD XX.out (d:=p.length) (by omega) t.f (by omega) (by omega) HSS.out).mono ?_);rintro e w5 ⟨rfl,h51,h52⟩;have X5:Hid (CB w5 b c f ((ah:Int)+1) ((gr:Int)+(if t.f.k=7 then 1 else 0)) (eY A p.length t.f)):=h51;have F5:Hid (Fr (fun z=>z=b) w w5):=FF.out.trans h52;clear h51 h52)
        go_ret
        exact⟨by rw [HM.out];rfl,fun _=>X5.out,F5.out⟩
      ·have e7:(t.f.k==7)=false:=by simpa using k7
       rw [if_neg (fun z=>k7 z.1)] at E
       by_cases k8:t.f.k=8
       ·have e8:(t.f.k==8)=true:=by simpa using k8
        have HE:Calls Tryz.prog 65 #[.pointer (some ⟨b,0,none⟩),.int .i64 ((p.length:Int)+1),.int .i64 t.f.n] w2 fun e w'=>e=.returned (.bool (!eZ p t.f.n&&decide (t.f.n<=(gr:Int))))/\Below w2.heap.size w2 w':=(tS H2.out (d:=p.length+1) (by omega) t.f.n).mono fun e w' ⟨h1,h2⟩=>⟨by rw [h1,HB.out.inEq],h2⟩
        by_cases hen:eZ p t.f.n=false/\t.f.n<=(gr:Int)
        ·rw [if_neg (fun z=>z.2 hen)] at E
         subst E
         rw [hen.1] at HE
         have en:(!false&&decide (t.f.n<=(gr:Int)))=true:=by simp [hen.2]
         rw [en] at HE
         have HE':=aB HE
         clear HE k8 hen XX FF
         go_wp2_with first |(go_at_call 65;(with_reducible refine(HE'.out).mono ?_);rintro e w3 ⟨rfl,h3⟩;have XX:=aB (H2.out.kept h3);have FF:Hid (Fr (fun z=>z=b) w w3):=F2.out.trans (Fr.of_below h3);have N3:BoxN w3 w.heap.size t.f:=(h3.block _ (aC N2.out)).trans N2.out;obtain⟨r0,r1,r2,r3,r4,r5⟩:=N3.six;simp only [a7] at r1 r2 r3 r4 r5;clear h3 N3) |(go_at_call 66;(with_reducible refine(qD XX.out (d:=p.length) (by omega) t.f (by omega) (by omega) HSS.out).mono ?_);rintro e w5 ⟨rfl,h51,h52⟩;have X5:Hid (CB w5 b c f ((ah:Int)+1) ((gr:Int)+(if t.f.k=7 then 1 else 0)) (eY A p.length t.f)):=h51;have F5:Hid (Fr (fun z=>z=b) w w5):=FF.out.trans h52;clear h51 h52)
         go_ret
         exact⟨by rw [HM.out];rfl,fun _=>X5.out,F5.out⟩
        ·rw [if_pos ⟨k8,hen⟩] at E
         subst E
         have en:(!eZ p t.f.n&&decide (t.f.n<=(gr:Int)))=false:=by
          cases hq:eZ p t.f.n
          ·simp;exact Int.not_le.1 (fun z=>hen ⟨hq,z⟩)
          ·rfl
         rw [en] at HE
         have HE':=aB HE
         clear HE k8 hen XX FF
         go_wp2_with (go_at_call 65;(with_reducible refine(HE'.out).mono ?_);rintro e w3 ⟨rfl,h3⟩;have FF:Hid (Fr (fun z=>z=b) w w3):=F2.out.trans (Fr.of_below h3);clear h3)
         go_ret
         exact⟨by rw [HM.out];rfl,fun z=>(by rw [HM.out] at z;cases z),FF.out⟩
       ·have e8:(t.f.k==8)=false:=by simpa using k8
        rw [if_neg (fun z=>k8 z.1)] at E
        subst E
        go_wp2_with (go_at_call 66;(with_reducible refine(qD XX.out (d:=p.length) (by omega) t.f (by omega) (by omega) HSS.out).mono ?_);rintro e w5 ⟨rfl,h51,h52⟩;have X5:Hid (CB w5 b c f ((ah:Int)+1) ((gr:Int)+(if t.f.k=7 then 1 else 0)) (eY A p.length t.f)):=h51;have F5:Hid (Fr (fun z=>z=b) w w5):=FF.out.trans h52;clear h51 h52)
        go_ret
        exact⟨by rw [HM.out];rfl,fun _=>X5.out,F5.out⟩
end
section
open Go Go.RowKit Go.Shelf
attribute [local go_sem] Oper.semAt_some
def noL:List Value:=[.int .i64 0,.int .i64 0,.int .i64 0,.int .i64 0,.slice none 0 0,.slice none 0 0,.int .i64 0]
def lA(c f:Bool):List Value:=.bool c :: .bool f :: .int .i64 0 :: .int .i64 0 :: (List.replicate 41 noL).flatten
theorem aU0(j:Nat)(hj:j<7):∀ (n d:Nat),d<n->((List.replicate n noL).flatten)[d*7+j]?=noL[j]?
 | 0,d,h=>absurd h (by omega)
 | n+1,0,_=>by rw [List.replicate_succ,List.flatten_cons,Nat.zero_mul,a7,r6 (by simpa [noL] using hj)]
 | n+1,d+1,h=>by
  rw [List.replicate_succ,List.flatten_cons,o0 (by simp [noL];omega),show (d+1)*7+j-noL.length=d*7+j by simp [noL];omega]
  exact aU0 j hj n d (by omega)
theorem iA(c f:Bool){d j:Nat}(hd:d<41)(hj:j<7):(lA c f)[4+d*7+j]?=noL[j]?:=by
 rw [show 4+d*7+j=d*7+j+1+1+1+1 by omega]
 exact aU0 j hj 41 d hd
theorem xU:Tryz.zeroCells83.toList=lA false false:=by kernel_rfl
theorem vU(w1:World)(c f:Bool):Sem.run Tryz.prog (storeCells ⟨w1.heap.size,0,none⟩ ((Tryz.zeroCells83.toList.set 0 (.bool c)).set 1 (.bool f))) (w1.alloc (.cells Tryz.zeroCells83 83))=.ok () (w1.alloc (.cells (lA c f).toArray 83)):=by
 have e:(Tryz.zeroCells83.toList.set 0 (.bool c)).set 1 (.bool f)=(lA c f).toArray.toList:=by rw [xU];rfl
 rw [e]
 exact run_storeCells_new w1 _ _ _ (by kernel_rfl) (by kernel_rfl) (by cases c <;> cases f <;> kernel_rfl)
theorem aI5(w1:World)(c f:Bool):CB (w1.alloc (.cells (lA c f).toArray 83)) w1.heap.size c f 0 0 (fun _=>⟨pR,0⟩):=by
 have N:=aD w1 (.cells (lA c f).toArray 83)
 have at':∀ (i:Nat) (v:Value),(lA c f)[i]?=some v->(w1.alloc (.cells (lA c f).toArray 83)).cell? ⟨w1.heap.size,i,none⟩=some v:=fun i v hv=>aA N (i:=i) (by simpa using hv)
 refine⟨⟨_,N⟩,at' 0 _ rfl,at' 1 _ rfl,at' 2 _ rfl,at' 3 _ rfl,fun d hd=>⟨⟨?_,?_,?_,?_,?_,?_⟩,?_⟩⟩
 ·exact at' _ _ ((iA c f hd (j:=0) (by omega)).trans rfl)
 ·exact at' _ _ ((iA c f hd (j:=1) (by omega)).trans rfl)
 ·exact at' _ _ ((iA c f hd (j:=2) (by omega)).trans rfl)
 ·exact at' _ _ ((iA c f hd (j:=3) (by omega)).trans rfl)
 ·exact at' _ _ ((iA c f hd (j:=4) (by omega)).trans rfl)
 ·exact at' _ _ ((iA c f hd (j:=5) (by omega)).trans rfl)
 ·exact at' _ _ ((iA c f hd (j:=6) (by omega)).trans rfl)
noncomputable def aV (c f:Bool):Nat->Nat->List El->Int
 | _,_,[]=>0
 | ah,gr,x :: r=>if bN c f x.1 x.2 ah gr≠0 then bN c f x.1 x.2 ah gr else aV c f (ah+1) (gr+(if x.2.f.k=7 then 1 else 0)) r
theorem xI{P:Tr->Prop}(t:Tr):∀ p,bG P t->(∀ x∈p,P x.1)->∀ z∈pp p t,∀ x∈z.1,P x.1:=by
 refine Tr.ind (P:=fun t=>∀ p,bG P t->(∀ x∈p,P x.1)->∀ z∈pp p t,∀ x∈z.1,P x.1) (fun t ih p he hp z hz=>?_) t
 rw [cD] at hz
 rcases n7.1 hz with q | q
 ·subst q;exact hp
 ·have:∀ (ks:List Tr) (i:Nat),(∀ u∈ks,u∈t.ks)->z∈pps t p i ks->∀ x∈z.1,P x.1:=by
   intro ks
   induction ks with
   | nil=>intro i _ h;rw [aY] at h;cases h
   | cons u us ih2=>
    intro i hs h
    rw [aZ] at h
    rcases j6.1 h with g | g
    ·exact ih u (hs u (g7 ..)) _ (cH he (hs u (g7 ..))) (fun x hx=>by
      rcases n7.1 hx with e | e
      ·rw [e];exact((aL t).1 he).1
      ·exact hp x e) z g
    ·exact ih2 (i+1) (fun v hv=>hs v (b6 _ hv)) g
  exact this t.ks 0 (fun _ h=>h) q
structure Inv(A:Nat->cW)(pre:List El):Prop where
 bd:∀ d,0<=(A d).s/\(A d).s<=(pre.length:Int)
 nx:∀ t x,pre++[x] <+: pp [] t->BA A x.1
theorem Inv.nil:Inv (fun _=>⟨pR,0⟩) []:=⟨fun d=>by simp,fun t x h=>by
 rw [n9] at h
 rw [mQ h]
 exact rfl⟩
theorem Inv.step{A:Nat->cW}{pre:List El}{x:El}(h:Inv A pre)(hb:BA A x.1):Inv (eY A x.1.length x.2.f) (pre++[x]):=
 ⟨fun d=>by
  have h1:=h.bd d
  have h2:=h.bd x.1.length
  simp only [eY,lM,j3,i9,List.length_nil]
  split
  ·simp;omega
  ·split
   ·simp;omega
   ·omega,fun t y hy=>BA.next (oF hy) (SA.enter hb).1 (SA.enter hb).2⟩
structure RI(w:World)(t:Tr)(c f:Bool)(b be:Nat)(pre:List El)(V:World):Prop where
 chk:∃ A,CB V b c f (pre.length:Int) (aI pre:Int) A/\Inv A pre
 pfx:pre <+: pp [] t
 len:pre.length<=2000
 res:V.heap[be]?=some (.cells #[.int .i64 0] 30 (0,0))
 bel:Below w.heap.size w V
 ans:∀ rest,pp [] t=pre++rest->aV c f 0 0 (pp [] t)=aV c f pre.length (aI pre) rest
def Ax2(r s B:Nat)(y:Act)(x:El)(a':Act)(W:World):Prop:=∃ bx,BoxN W bx x.2.f/\B<=bx/\a'={ y with tmps:=(y.tmps.setIfInBounds r (.int .i64 ((x.1.length:Int)+1))).setIfInBounds s (.pointer (some ⟨bx,0,none⟩)) }
theorem aL0(r s B:Nat)(y:Act)(x:El)(a':Act):OwnFrom B (fun (_:Unit) W=>Ax2 r s B y x a' W):=fun _ _ _ _ h hg hr=>by
 obtain⟨bx,h1,h2,h3⟩:=h
 exact⟨bx,dS hg hr h1,h2,h3⟩
theorem zN(n:Nat)(hn:3<=n){w:World}{t:Tr}(c f:Bool)(hta:TB w t) :
  CallsIn Fence.wide n Tryz.prog 21 #[.agg #[.int .i64 t.f.k,.int .i64 t.f.n,.int .i64 t.f.mn,.int .i64 t.f.mx,.slice t.f.rq t.f.rs.length t.f.rc,.slice t.f.kq t.f.kl t.f.kc],.agg #[.bool c,.bool f]] w fun e w'=>e=.returned (.int .i64 (aV c f 0 0 (pp [] t)))/\Below w.heap.size w w':=by
 have hfn:∀ f,Fence.wide.fn f:=fun _=>trivial
 refine callsIn_of_wp_marks Tryz.func21 rfl trivial ?_ rfl
 simp only [Tryz.ntmps21,aAH,i9,List.length_nil,Nat.reduceAdd,Nat.reduceSub,Array.replicate_succ,Array.replicate_zero,List.push_toArray,List.append_toArray,n9,l7]
 refine wpIn_wide.2 ?_
 have HTA:=aB hta
 go_upto_region 1 with fail
 have N0:Hid (BoxN (((w.alloc (.cells #[.int .i64 t.f.k,.int .i64 t.f.n,.int .i64 t.f.mn,.int .i64 t.f.mx,.slice t.f.rq t.f.rs.length t.f.rc,.slice t.f.kq t.f.kl t.f.kc] 25)).alloc (.cells #[.bool c,.bool f] 27)).alloc (.cells #[.int .i64 0] 30)) w.heap.size t.f):=(Below.heap_alloc _ _ _ (by simp;omega)).trans ((Below.heap_alloc _ _ _ (by simp)).trans (aD w _))
 have M0:Hid ((((w.alloc (.cells #[.int .i64 t.f.k,.int .i64 t.f.n,.int .i64 t.f.mn,.int .i64 t.f.mx,.slice t.f.rq t.f.rs.length t.f.rc,.slice t.f.kq t.f.kl t.f.kc] 25)).alloc (.cells #[.bool c,.bool f] 27)).alloc (.cells #[.int .i64 0] 30)).heap[w.heap.size+1]?=some (.cells #[.bool c,.bool f] 27 (0,0))):=(Below.heap_alloc _ _ _ (by simp)).trans (by have:=aD (w.alloc (.cells #[.int .i64 t.f.k,.int .i64 t.f.n,.int .i64 t.f.mn,.int .i64 t.f.mx,.slice t.f.rq t.f.rs.length t.f.rc,.slice t.f.kq t.f.kl t.f.kc] 25)) (.cells #[.bool c,.bool f] 27);rwa [m8] at this)
 have E0:Hid ((((w.alloc (.cells #[.int .i64 t.f.k,.int .i64 t.f.n,.int .i64 t.f.mn,.int .i64 t.f.mx,.slice t.f.rq t.f.rs.length t.f.rc,.slice t.f.kq t.f.kl t.f.kc] 25)).alloc (.cells #[.bool c,.bool f] 27)).alloc (.cells #[.int .i64 0] 30)).heap[w.heap.size+1+1]?=some (.cells #[.int .i64 0] 30 (0,0))):=(by have:=aD ((w.alloc (.cells #[.int .i64 t.f.k,.int .i64 t.f.n,.int .i64 t.f.mn,.int .i64 t.f.mx,.slice t.f.rq t.f.rs.length t.f.rc,.slice t.f.kq t.f.kl t.f.kc] 25)).alloc (.cells #[.bool c,.bool f] 27)) (.cells #[.int .i64 0] 30);rwa [m8,m8] at this)
 have B0:Hid (Below w.heap.size w (((w.alloc (.cells #[.int .i64 t.f.k,.int .i64 t.f.n,.int .i64 t.f.mn,.int .i64 t.f.mx,.slice t.f.rq t.f.rs.length t.f.rc,.slice t.f.kq t.f.kl t.f.kc] 25)).alloc (.cells #[.bool c,.bool f] 27)).alloc (.cells #[.int .i64 0] 30))):=((bz9).alloc (by simp) _).alloc (by simp;omega) _
 generalize (((w.alloc (.cells #[.int .i64 t.f.k,.int .i64 t.f.n,.int .i64 t.f.mn,.int .i64 t.f.mx,.slice t.f.rq t.f.rs.length t.f.rc,.slice t.f.kq t.f.kl t.f.kc] 25)).alloc (.cells #[.bool c,.bool f] 27)).alloc (.cells #[.int .i64 0] 30))=w1 at N0 M0 E0 B0 ⊢
 generalize hbm:w.heap.size+1=bm at M0 E0 ⊢
 generalize hbe:bm+1=be at E0 ⊢
 have m0:w1.cell? ⟨bm,0,none⟩=some (.bool c):=aA M0.out (i:=0) rfl
 have m1:w1.cell? ⟨bm,1,none⟩=some (.bool f):=aA M0.out (i:=1) rfl
 have hst:=vU w1 c f
 go_upto_region 2 with fail
 have C2:Hid (CB (w1.alloc (.cells (lA c f).toArray 83)) w1.heap.size c f 0 0 (fun _=>⟨pR,0⟩)):=aI5 w1 c f
 have K2:Below w1.heap.size w1 (w1.alloc (.cells (lA c f).toArray 83)):=bz9
 have N2:Hid (BoxN (w1.alloc (.cells (lA c f).toArray 83)) w.heap.size t.f):=(K2.block _ (aC N0.out)).trans N0.out
 have E2:Hid ((w1.alloc (.cells (lA c f).toArray 83)).heap[be]?=some (.cells #[.int .i64 0] 30 (0,0))):=(K2.block _ (aC E0.out)).trans E0.out
 have B2:Hid (Below w.heap.size w (w1.alloc (.cells (lA c f).toArray 83))):=aF B0.out K2 lz9
 have hbb:w.heap.size<=w1.heap.size:=B0.out.size
 have hbe2:w.heap.size<=be:=by omega
 have hbl:=aC E0.out
 generalize (w1.alloc (.cells (lA c f).toArray 83))=w2 at C2 K2 N2 E2 B2 ⊢
 clear hst m0 m1 N0 M0 E0 K2
 generalize w1.heap.size=b at C2 hbb hbl ⊢
 obtain⟨c0,c1,c2,c3,c4,c5⟩:=N2.out.six
 simp only [a7] at c1 c2 c3 c4 c5
 go_wp2_with (go_at_call 38;(with_reducible refine(pQ _ _).mono ?_);rintro e w3 ⟨rfl,rfl⟩)
 have K3:Below w2.heap.size w2 (w2.alloc (.cells #[.int .i64 t.f.k,.int .i64 t.f.n,.int .i64 t.f.mn,.int .i64 t.f.mx,.slice t.f.rq t.f.rs.length t.f.rc,.slice t.f.kq t.f.kl t.f.kc] 25)):=bz9
 have N3:BoxN (w2.alloc (.cells #[.int .i64 t.f.k,.int .i64 t.f.n,.int .i64 t.f.mn,.int .i64 t.f.mx,.slice t.f.rq t.f.rs.length t.f.rc,.slice t.f.kq t.f.kl t.f.kc] 25)) w2.heap.size t.f:=aD w2 _
 have C3:=C2.out.kept K3
 have E3:=(K3.block _ (aC E2.out)).trans E2.out
 have B3:=aF B2.out K3 lz9
 generalize (w2.alloc (.cells #[.int .i64 t.f.k,.int .i64 t.f.n,.int .i64 t.f.mn,.int .i64 t.f.mx,.slice t.f.rq t.f.rs.length t.f.rc,.slice t.f.kq t.f.kl t.f.kc] 25))=w4 at K3 N3 C3 E3 B3 ⊢
 generalize w2.heap.size=bn at N3 ⊢
 clear c0 c1 c2 c3 c4 c5 C2 N2 E2 B2 K3
 have L4:=C3.lt
 have L5:=aC E3
 refine(wpIn_wide (n:=n)).1 ?_
 refine tB (by omega) 13 14 bn rfl rfl N3 HTA.out (CK.of_below B3) (RI w t c f b be) (fun k pre V=>k=.ret/\V.heap[be]?=some (.cells #[.int .i64 (aV c f 0 0 (pp [] t))] 30 (0,0))/\Below w.heap.size w V)
  ?_ ?_ (fun pre W h=>by have:=h.len;omega) ⟨⟨_,C3,Inv.nil⟩,List.nil_prefix,by simp,E3,B3,fun rest hr=>by rw [hr];rfl⟩ (Ax2 6 7 w4.heap.size) (aL0 _ _ _) ?_ ?_ ?_ ?_
 ·rintro pre V V' row h hg hr
  obtain⟨A,hA,hI⟩:=h.chk
  exact⟨⟨A,hA.row hg hr,hI⟩,h.pfx,h.len,dS hg hr h.res,gR h.bel lz9 B3.size hg hr,h.ans⟩
 ·rintro k pre V V' row ⟨h0,h1,h2⟩ hg hr
  exact⟨h0,dS hg hr h1,gR h2 lz9 B3.size hg hr⟩
 ·intro l pre x V K _ _ hs _ hK
  have HS:=aB hs
  simp only [fI]
  gi_wp2
  exact hK _ _ (bz9) ⟨_,aD V _,HS.out,rfl⟩
 ·rintro l pre x a' V h hck hsz ht ⟨bx,hbx,hbl2,rfl⟩
  obtain⟨A,hA,hI⟩:=h.chk
  have hba:=hI.nx t x ht
  obtain⟨rest,hrest⟩:=ht
  have hin:x∈pp [] t:=by rw [<- hrest];simp
  have hway:∀ y∈x.1,NB w y.1:=xI t [] HTA.out (fun _ z=>by cases z) x hin
  have hkl:(A x.1.length).f.kl<=9223372036854775807:=by
   cases hx:x.1 with
   | nil=>
    rw [hx] at hba
    have:(A 0).f=pR:=hba
    rw [List.length_nil,this]
    simp [pR]
   | cons y ys=>
    rw [hx] at hba hway
    have e:=hba.1
    rw [i9,e]
    have hy:=hway y (g7 ..)
    obtain⟨q,cap,-,hm,-⟩:=hy.k.slice
    show y.1.f.kl<=_
    rw [hy.kl]
    exact hm
  have hbd:=hI.bd x.1.length
  have hdp:=oG (t:=t) (pre:=pre) (x:=x) ⟨rest,hrest⟩
  have hlen:=h.len
  have hgl:=mI pre
  have LK:=aB (aR3 (t:=x.2) hA hba (fun y hy=>(hway y hy).kl) hkl ⟨hbd.1,by omega⟩ ((HTA.out.at hin).node.ck hck) hlen (by omega) (by omega))
  have HE:=aB (show pp [] t=pre++x :: rest by rw [<- hrest];simp)
  have HA2:=aB (h.ans (x :: rest) HE.out)
  have HH:=aB h
  have HBA:=aB hba
  have HI:=aB hI
  obtain⟨k0,k1,k2,k3,k4,k5⟩:=hbx.six
  simp only [a7] at k1 k2 k3 k4 k5
  obtain⟨m,hm⟩:∃ m,bN c f x.1 x.2 pre.length (aI pre)=m:=⟨_,rfl⟩
  have HM:=aB hm
  have HBX:=aB hbx
  clear h hck hsz hbx hba hrest hin hway hkl hbd hm hI hgl
  simp only [fI]
  by_cases hm0:m=0
  ·have e0:(m != 0)=false:=by simpa using hm0
   gi_wp2
   refine⟨(fun z=>by cases z),(CallsIn.inRound l (callsIn_wide.2 (LK.out))).mono ?_⟩
   rintro e V5 ⟨he5,h51,h52⟩
   rw [HM.out] at he5 h51
   subst he5
   have X5:=aB (h51 hm0)
   have F5:=aB h52
   clear h51 h52
   gi_wp2
   subst hm0
   have hl2:pre.length<2000:=by
    rcases Nat.lt_or_ge pre.length 2000 with z | z
    ·exact z
    ·have:=HM.out
     unfold bN at this
     rw [if_pos (by omega)] at this
     cases this
   refine⟨F5.out.keepsFrom (fun k hk=>by omega),F5.out.ckeep (fun k hk=>by rintro (z | z) <;> omega),⟨⟨_,?_,HI.out.step HBA.out⟩,?_,by simp;omega,(F5.out.block _ (aC HH.out.res) (by omega)).trans HH.out.res,aX HH.out.bel F5.out lz9 (fun k e=>by omega),fun rest' hr'=>?_⟩⟩
   ·have:=X5.out
    rw [eP,Int.natCast_add,show (((if x.2.f.k=7 then 1 else 0:Nat)):Int)=(if x.2.f.k=7 then 1 else 0) by split <;> rfl]
    simpa using this
   ·exact⟨rest,by rw [HE.out];simp⟩
   ·rw [HE.out,j7,List.append_cancel_left_eq] at hr'
    simp at hr'
    subst hr'
    rw [HA2.out]
    simp only [aV,HM.out,ne_eq,not_true,if_false,j3,i9,List.length_nil,eP]
  ·have e0:(m != 0)=true:=by simpa using hm0
   have HR:=aB (show m=aV c f 0 0 (pp [] t) by rw [HA2.out];simp only [aV,HM.out,ne_eq,hm0,not_false_eq_true,if_true])
   gi_wp2
   refine⟨(fun z=>by cases z),(CallsIn.inRound l (callsIn_wide.2 (LK.out))).mono ?_⟩
   rintro e V5 ⟨he5,h51,h52⟩
   rw [HM.out] at he5
   subst he5
   have F5:=aB h52
   have E5:V5.heap[be]?=some (.cells #[.int .i64 0] 30 (0,0)):=(h52.block _ (aC HH.out.res) (by omega)).trans HH.out.res
   have fz:=aJ E5 0
   have cz:=aA E5 (i:=0) rfl
   have E6:=aB (aM E5 0 (.int .i64 m))
   have F6:=aB ((Fr.refl (fun z=>z=be) V5).setCell (p:=⟨be,0,none⟩) rfl (.int .i64 m))
   clear h51 h52 E5
   gi_wp2
   refine⟨(F5.out.keepsFrom (fun k hk=>by omega)).trans (F6.out.keepsFrom (fun k hk=>by omega)),rfl,by rw [<- HR.out];exact E6.out,aX (aX HH.out.bel F5.out lz9 (fun k e=>by omega)) F6.out lz9 (fun k e=>by omega)⟩
 ·rintro D V hD h hck hK
  have e1:aV c f 0 0 (pp [] t)=0:=by rw [h.ans [] (by simp)];rfl
  have HH:=aB h
  have HK:=aB hK
  have HD:=aB hD
  have fz:=aJ h.res 0
  have cz:=aA h.res (i:=0) rfl
  have E6:=aB (aM h.res 0 (.int .i64 0))
  have F6:=aB ((Fr.refl (fun z=>z=be) V).setCell (p:=⟨be,0,none⟩) rfl (.int .i64 0))
  clear h hck hK hD
  simp only [iE]
  go_wp2
  have hDb:be≠D:=by have:=HD.out;omega
  have cw:((V.setCell ⟨be,0,none⟩ (.int .i64 0)).putObj D (.deferred none)).cell? ⟨be,0,none⟩=some (.int .i64 0):=aA ((World.putObj_heap_other hDb).trans E6.out) (i:=0) rfl
  refine⟨by simp,.inl ⟨_,_,rfl,run_takeDeferred ((F6.out.block _ (aC HK.out) (by have:=HD.out;omega)).trans HK.out),?_⟩⟩
  exact⟨.int .i64 (aV c f 0 0 (pp [] t)),by simp [results,Tryz.results21,go_sem,cw,e1],rfl,lF _ (aX HH.out.bel F6.out lz9 (fun k e=>by omega)) (j4 B3.size HD.out)⟩
 ·rintro D k pre V hD hpre ⟨rfl,h1,h2⟩ hK
  refine(wpIn_wide (n:=n)).2 ?_
  have H1:=aB h1
  have H2:=aB h2
  have HK:=aB hK
  have hDb:be≠D:=by omega
  have cw:(V.putObj D (.deferred none)).cell? ⟨be,0,none⟩=some (.int .i64 (aV c f 0 0 (pp [] t))):=aA ((World.putObj_heap_other hDb).trans H1.out) (i:=0) rfl
  clear h1 h2 hK
  simp only [iE]
  go_wp2
  refine⟨by simp,.inl ⟨_,_,rfl,run_takeDeferred HK.out,?_⟩⟩
  exact⟨.int .i64 (aV c f 0 0 (pp [] t)),by simp [results,Tryz.results21,go_sem,cw],rfl,lF _ H2.out (j4 B3.size hD)⟩
theorem qW{w:World}{t:Tr}(c f:Bool)(hta:TB w t):Calls Tryz.prog 21 #[.agg #[.int .i64 t.f.k,.int .i64 t.f.n,.int .i64 t.f.mn,.int .i64 t.f.mx,.slice t.f.rq t.f.rs.length t.f.rc,.slice t.f.kq t.f.kl t.f.kc],.agg #[.bool c,.bool f]] w fun e w'=>e=.returned (.int .i64 (aV c f 0 0 (pp [] t)))/\Below w.heap.size w w':=callsIn_wide.1 (zN 3 (by decide) c f hta)
end
theorem jB{c f:Bool}:∀ (L:List El) (ah gr:Nat),aV c f ah gr L=0->∀ pre x post,L=pre++x :: post->bN c f x.1 x.2 (ah+pre.length) (gr+aI pre)=0
 | [],_,_,_,pre,x,post,h=>by cases pre <;> cases h
 | y :: L,ah,gr,hr,pre,x,post,h=>by
  unfold aV at hr
  by_cases hy:bN c f y.1 y.2 ah gr=0
  ·rw [if_neg (by simpa using hy)] at hr
   cases pre with
   | nil=>
    simp at h
    obtain⟨rfl,rfl⟩:=h
    simpa [aI] using hy
   | cons z pre=>
    simp at h
    obtain⟨rfl,rfl⟩:=h
    have:=jB (pre++x :: post) (ah+1) (gr+(if y.2.f.k=7 then 1 else 0)) hr pre x post rfl
    simp only [i9,aI]
    rw [show ah+(pre.length+1)=ah+1+pre.length by omega,show gr+((if y.2.f.k=7 then 1 else 0)+aI pre)=gr+(if y.2.f.k=7 then 1 else 0)+aI pre by omega]
    exact this
  ·rw [if_pos hy] at hr
   exact absurd hr hy
theorem oW{c f:Bool}:∀ (L:List El) (ah gr:Nat),(∀ pre x post,L=pre++x :: post->bN c f x.1 x.2 (ah+pre.length) (gr+aI pre)=0)->aV c f ah gr L=0
 | [],_,_,_=>rfl
 | y :: L,ah,gr,h=>by
  unfold aV
  have hy:=h [] y L rfl
  simp only [List.length_nil,aAE,aI] at hy
  rw [if_neg (by simpa using hy)]
  refine oW L (ah+1) (gr+(if y.2.f.k=7 then 1 else 0)) fun pre x post e=>?_
  have:=h (y :: pre) x post (by rw [e];rfl)
  simp only [i9,aI] at this
  rw [show ah+1+pre.length=ah+(pre.length+1) by omega,show gr+(if y.2.f.k=7 then 1 else 0)+aI pre=gr+((if y.2.f.k=7 then 1 else 0)+aI pre) by omega]
  exact this
theorem aH8{ks:List Tr}(s:Way)(h:∀ t∈ks,∀ p,pp (p++s) t=(pp p t).map fun z=>(z.1++s,z.2))(par:Tr)(p:Way)(i:Nat):pps par (p++s) i ks=(pps par p i ks).map fun z=>(z.1++s,z.2):=by
 induction ks generalizing i with
 | nil=>rw [aY,aY];rfl
 | cons t ts ih=>rw [aZ,aZ,o4,<- ih (fun u hu=>h u (b6 _ hu)),<- h t (g7 ..)];rfl
theorem aQ5(s:Way)(t:Tr):∀ p,pp (p++s) t=(pp p t).map fun z=>(z.1++s,z.2):=by
 refine Tr.ind (P:=fun t=>∀ p,pp (p++s) t=(pp p t).map fun z=>(z.1++s,z.2)) (fun t ih p=>?_) t
 rw [cD,cD,l8,aH8 s ih]
theorem jQ{pk seen k:Int}{kl:Nat}(h:cK pk seen kl k=true):cG k=true:=by
 have ht:bA k=true->cG k=true:=by
  intro z
  simp [bA] at z
  simp [cG]
  omega
 unfold cK at h
 split at h
 ·simp at h
  rcases h with (z | z) | z
  ·exact ht z
  ·obtain⟨rfl,-⟩:=z;rfl
  ·obtain⟨rfl,-⟩:=z;rfl
 ·split at h
  ·exact ht h
  ·split at h
   ·simp at h;exact h.1
   ·exact h
theorem oI{c f:Bool}{L:List El}(hr:aV c f 0 0 L=0):L.length<=2000:=by
 rcases Nat.lt_or_ge 2000 L.length with h | h
 ·exfalso
  have e:L=L.take 2000++L[2000] :: L.drop 2001:=by
   have:=u9 2000 L
   rw [u8 h] at this
   exact this.symm
  have:=jB L 0 0 hr _ _ _ e
  rw [show 0+(L.take 2000).length=2000 by rw [o9];omega] at this
  unfold bN at this
  rw [if_pos rfl] at this
  cases this
 ·exact h
section
mutual
def Er.sz:Er->Nat | .mk _ _ _ _ _ ks=>oA ks+1
def oA:List Er->Nat | []=>0 | x :: xs=>x.sz+oA xs
end
def Er.k:Er->Int | .mk k _ _ _ _ _=>k
def Er.ks:Er->List Er | .mk _ _ _ _ _ ks=>ks
theorem jX(x:Er):x.sz=oA x.ks+1:=by cases x;rw [Er.sz];rfl
theorem jH(x:Er)(l:List Er):oA (x :: l)=x.sz+oA l:=by rw [oA]
theorem gP:oA []=0:=by rw [oA]
theorem aS8(t:Tr):(er t).k=t.f.k:=by rw [bQ];rfl
theorem aM7(t:Tr):(er t).ks=t.ks.map er:=by rw [bQ];rfl
theorem eF(t:Tr):(er t).sz=t.sz:=by
 refine Tr.ind (P:=fun t=>(er t).sz=t.sz) (fun t ih=>?_) t
 rw [jX,aM7,dY]
 congr 1
 have:∀ l:List Tr,(∀ u∈l,(er u).sz=u.sz)->oA (l.map er)=szs l:=by
  intro l
  induction l with
  | nil=>intro _;rw [List.map_nil,gP,dJ]
  | cons x l ih2=>
   intro h
   rw [l8,jH,bK,h x (g7 ..),ih2 (fun u hu=>h u (b6 _ hu))]
 exact this t.ks ih
section
variable {V:World} {g:Nat} {t1 t2 t3:Tr}
end
end
theorem aA9{c f:Bool}{p:Way}{t:Tr}{ah gr:Nat}(h:bN c f p t ah gr=0)(hk:t.f.k=7):t.f.n=(gr:Int)+1/\t.f.n<=30:=by
 unfold bN at h
 split at h
 ·cases h
 ·split at h
  ·cases h
  ·split at h
   ·cases h
   ·rename_i n3
    have hf:=(Classical.not_not.1 n3).2.1
    split at h
    ·cases h
    ·rename_i n4
     refine⟨?_,Int.not_lt.1 fun z=>n4 ⟨hk,z⟩⟩
     unfold aP at hf
     rw [if_neg (by omega),if_pos hk] at hf
     exact hf.1
theorem hU{t:Tr}{k n mn mx:Int}{rs:List (Int×Int)}{l:List Er}(h:er t=.mk k n mn mx rs l):t.f.k=k/\t.f.n=n/\t.f.mn=mn/\t.f.mx=mx/\t.f.rs=rs/\t.ks.map er=l:=by
 rw [bQ] at h
 injection h with h1 h2 h3 h4 h5 h6
 exact⟨h1,h2,h3,h4,h5,h6⟩
theorem pV{ks:List Tr}{x:Er}(h:ks.map er=[x]):∃ a,ks=[a]/\er a=x:=by
 match ks,h with
 | [a],h=>simp at h;exact⟨a,rfl,h⟩
theorem aO2(x:Ps):(te x).k=x.kd:=by
 cases x with
 | row l=>simp only [te,Ps.kd];split <;> rfl
 | _=>simp [te,Ps.kd,Er.k]
theorem eT(x:Ps):(te x).sz=x.sz:=by
 refine Ps.ind (P:=fun x=>(te x).sz=x.sz) (fun x ih=>?_) x
 have hl:∀ l:List Ps,(∀ y∈l,(te y).sz=y.sz)->oA (tes l)=bR l:=by
  intro l
  induction l with
  | nil=>intro _;rw [tes,gP,gI]
  | cons y l ih2=>intro h;rw [tes,jH,bD,h y (g7 ..),ih2 (fun z hz=>h z (b6 _ hz))]
 cases x with
 | lf k n rs=>simp only [te,Ps.sz,jX,Er.ks,gP]
 | grp n k=>rw [te,jX,Ps.sz];simp only [Er.ks];rw [jH,gP,ih k (by simp [Ps.kids])]
 | rep a b k=>rw [te,jX,Ps.sz];simp only [Er.ks];rw [jH,gP,ih k (by simp [Ps.kids])]
 | row l=>
  rw [te,Ps.sz]
  split
  ·rename_i h
   rw [List.isEmpty_iff.1 h,jX,gI];simp only [Er.ks,gP]
  ·rw [jX];simp only [Er.ks];rw [hl l ih]
 | alt l=>rw [te,Ps.sz,jX];simp only [Er.ks];rw [hl l ih]
theorem kZ(a b:List El):eL (a++b)=max (eL a) (eL b):=by
 induction a with
 | nil=>simp [eL]
 | cons x a ih=>simp only [l7,eL,ih];omega
theorem vI(x:Ps):∀ (t:Tr) (wy:Way),er t=te x->eL (pp wy t)=wy.length+x.dp:=by
 refine Ps.ind (P:=fun x=>∀ (t:Tr) (wy:Way),er t=te x->eL (pp wy t)=wy.length+x.dp) (fun x ih t wy h=>?_) x
 have hl:∀ (l:List Ps) (ks:List Tr) (i:Nat),(∀ y∈l,∀ (t:Tr) (wy:Way),er t=te y->eL (pp wy t)=wy.length+y.dp)->ks.map er=l.map te->eL (pps t wy i ks)=if l=[] then 0 else wy.length+1+fU l:=by
  intro l
  induction l with
  | nil=>
   intro ks i _ h
   obtain rfl:ks=[]:=by simpa using h
   rw [aY,if_pos rfl];rfl
  | cons y l ih2=>
   intro ks i h hk
   match ks,hk with
   | u :: ks,hk=>
    rw [l8,l8] at hk
    injection hk with h1 h2
    rw [aZ,kZ,h y (g7 ..) u _ h1,ih2 ks (i+1) (fun z hz=>h z (b6 _ hz)) h2,fU,i9]
    by_cases e:l=[]
    ·subst e
     rw [if_pos rfl,if_neg (by simp),fU];omega
    ·rw [if_neg e,if_neg (by simp)];omega
 rw [cD]
 simp only [eL]
 have hks:t.ks.map er=(te x).ks:=by rw [<- aM7,h]
 cases x with
 | lf k n rs=>
  rw [te] at hks
  rw [show t.ks=[] by simpa [Er.ks] using hks,aY,Ps.dp]
  simp [eL]
 | grp n k=>
  rw [te] at hks
  rw [hl [k] t.ks 0 ih (by simpa [Er.ks] using hks),if_neg (by simp),Ps.dp,fU,fU]
  omega
 | rep a b k=>
  rw [te] at hks
  rw [hl [k] t.ks 0 ih (by simpa [Er.ks] using hks),if_neg (by simp),Ps.dp,fU,fU]
  omega
 | row l=>
  rw [te] at hks
  by_cases e:l=[]
  ·subst e
   rw [if_pos (show ([]:List Ps).isEmpty=true from rfl)] at hks
   rw [show t.ks=[] by simpa [Er.ks] using hks,aY,Ps.dp,fU]
   simp [eL]
  ·rw [if_neg (by simpa using e)] at hks
   rw [hl l t.ks 0 ih (by rw [<- bJ];simpa [Er.ks] using hks),if_neg e,Ps.dp]
   omega
 | alt l=>
  rw [te] at hks
  rw [hl l t.ks 0 ih (by rw [<- bJ];simpa [Er.ks] using hks),Ps.dp]
  split
  ·rename_i e;rw [e,fU];omega
  ·omega
def dD(c f:Bool):Sgn->Prop
 | .lf k n rs=>(k=2->jR c f rs/\n=0)/\(k≠2->rs=[])/\(k=8->1<=n/\n<=9)/\(k≠8->n=0)
 | .rp a b=>eW a b=true
 | _=>True
def LKr(c f:Bool)(x:El)(gr:Nat):Prop:=
 bL x.1 x.2.f.k=true/\aP c f ((gr:Int)+1) x.2.f/\dL x.2.f.k x.2.ks.length=true/\(x.2.f.k=7->x.2.f.n<=30)/\(x.2.f.k=8->eZ x.1 x.2.f.n=false/\x.2.f.n<=(gr:Int))
def RTr(c f:Bool)(gr:Nat)(L:List El):Prop:=∀ pre x post,L=pre++x :: post->LKr c f x (gr+aI pre)
theorem RTr.nil(c f:Bool)(gr:Nat):RTr c f gr []:=fun pre x post h=>by cases pre <;> cases h
theorem RTr.append{c f:Bool}{gr:Nat}{A B:List El}(h1:RTr c f gr A)(h2:RTr c f (gr+aI A) B):RTr c f gr (A++B):=by
 intro pre x post h
 rcases List.append_eq_append_iff.1 h with⟨a,e1,e2⟩ | ⟨a,e1,e2⟩
 ·rw [e1,cS,<- t9]
  exact h2 a x post e2
 ·cases a with
  | nil=>
   simp at e1 e2
   subst e1
   have:=h2 [] x post (by simp [<- e2])
   simpa [aI] using this
  | cons y a=>
   simp at e2
   obtain⟨rfl,e2⟩:=e2
   exact h1 pre x a e1
theorem RTr.one{c f:Bool}{gr:Nat}{x:El}(h:LKr c f x gr):RTr c f gr [x]:=by
 intro pre y post e
 cases pre with
 | nil=>simp at e;obtain⟨rfl,-⟩:=e;simpa [aI] using h
 | cons z pre=>simp at e
theorem vC(g:Nat)(o e:List Nat)(l:List Sgn):hk g o e (.al :: l)=hk g o e l:=rfl
theorem aU9(g:Nat)(o e:List Nat)(a b:Int)(l:List Sgn):hk g o e (.rp a b :: l)=hk g o e l:=rfl
def Iv(gr:Nat)(e:List Nat)(wy:Way):Prop:=∀ n∈e,n<=gr/\eZ wy (n:Int)=false
def Av(gr:Nat)(wy:Way):Prop:=∀ y∈wy,y.1.f.k=7->y.1.f.n<=(gr:Int)
theorem Av.mono{gr gr':Nat}{wy:Way}(h:Av gr wy)(hg:gr<=gr'):Av gr' wy:=fun y hy hk=>by have:=h y hy hk;omega
theorem eG(t:Tr)(i:Nat)(wy:Way)(n:Int):eZ ((t,i) :: wy) n=((t.f.k==7&&t.f.n==n)||eZ wy n):=by simp [eZ]
theorem Iv.down{gr:Nat}{e:List Nat}{wy:Way}{t:Tr}(i:Nat)(h:Iv gr e wy)(hk:t.f.k≠7):Iv gr e ((t,i) :: wy):=fun n hn=>⟨(h n hn).1,by rw [eG,(h n hn).2];simp [hk]⟩
theorem Iv.up{gr:Nat}{e:List Nat}{wy:Way}{t:Tr}{i:Nat}(h:Iv gr e ((t,i) :: wy)):Iv gr e wy:=fun n hn=>⟨(h n hn).1,by have:=(h n hn).2;rw [eG] at this;simp only [Bool.or_eq_false_iff] at this;exact this.2⟩
theorem Iv.turn{gr:Nat}{e:List Nat}{wy:Way}{t:Tr}{i:Nat}(j:Nat)(h:Iv gr e ((t,i) :: wy)):Iv gr e ((t,j) :: wy):=fun n hn=>⟨(h n hn).1,by have:=(h n hn).2;rw [eG] at this ⊢;exact this⟩
theorem Av.down{gr:Nat}{wy:Way}{t:Tr}(i:Nat)(h:Av gr wy)(hk:t.f.k=7->t.f.n<=(gr:Int)):Av gr ((t,i) :: wy):=fun y hy h7=>by
 rcases n7.1 hy with rfl | hy
 ·exact hk h7
 ·exact h y hy h7
theorem Av.end_{gr:Nat}{wy:Way}(h:Av gr wy){n:Nat}(hn:gr<n):eZ wy (n:Int)=false:=by
 unfold eZ
 rw [List.any_eq_false]
 intro y hy
 simp only [Bool.and_eq_true,beq_iff_eq,not_and]
 intro h7 e
 have:=h y hy h7
 omega
def RtP(c f:Bool)(x:Ps):Prop:=∀ (t:Tr) (wy:Way) (gr:Nat) (o e:List Nat) (rest:List Sgn),er t=te x->wf x->(∀ s∈pfl x,dD c f s)->bL wy x.kd=true->Iv gr e wy->Av gr wy->hk gr o e (pfl x++rest) ->
 RTr c f gr (pp wy t)/\∃ e',hk (gr+aI (pp wy t)) o e' rest/\Iv (gr+aI (pp wy t)) e' wy
theorem zF{c f:Bool}{par:Tr}{wy:Way}:∀ (l:List Ps) (ks:List Tr) (i gr:Nat) (o e:List Nat) (rest:List Sgn),(∀ y∈l,RtP c f y)->ks.map er=l.map te->wfs l->(∀ s∈eC l,dD c f s)->(∀ j y,l[j]?=some y->bL ((par,i+j) :: wy) y.kd=true)->Iv gr e ((par,i) :: wy)->Av gr ((par,i) :: wy)->hk gr o e (eC l++rest) ->
  RTr c f gr (pps par wy i ks)/\∃ e',hk (gr+aI (pps par wy i ks)) o e' rest/\Iv (gr+aI (pps par wy i ks)) e' ((par,i) :: wy)
 | [],ks,i,gr,o,e,rest,_,h,_,_,_,hI,_,hh=>by
  obtain rfl:ks=[]:=by simpa using h
  rw [aY]
  rw [eC] at hh
  exact⟨RTr.nil _ _ _,e,by simpa [aI] using hh,by simpa [aI] using hI⟩
 | y :: l,u :: ks,i,gr,o,e,rest,ih,h,hw,hs,hst,hI,hA,hh=>by
  rw [l8,l8] at h
  injection h with h1 h2
  rw [wfs] at hw
  rw [eC] at hh hs
  rw [j7] at hh
  obtain⟨r1,e1,k1,i1⟩:=ih y (g7 ..) u ((par,i) :: wy) gr o e (eC l++rest) h1 hw.1 (fun s hs'=>hs s (List.mem_append_left _ hs')) (by have:=hst 0 y rfl;simpa using this) hI hA hh
  obtain⟨r2,e2,k2,i2⟩:=zF l ks (i+1) _ o e1 rest (fun z hz=>ih z (b6 _ hz)) h2 hw.2 (fun s hs'=>hs s (List.mem_append_right _ hs')) (fun j z hz=>by have:=hst (j+1) z (by simpa using hz);rwa [show i+(j+1)=i+1+j by omega] at this) (i1.turn _) ((fun y hy h7=>by
    rcases n7.1 hy with rfl | hy
    ·have:=hA (par,i) (g7 ..) h7;simp only at this ⊢;omega
    ·have:=hA y (b6 _ hy) h7;omega)) k1
  rw [aZ,cS,<- t9]
  exact⟨r1.append r2,e2,k2,i2.turn _⟩
 | y :: l,[],_,_,_,_,_,_,h,_,_,_,_,_,_=>by simp at h
theorem zE{c f:Bool}{par:Tr}{wy:Way}:∀ (l:List Ps) (ks:List Tr) (i gr:Nat) (o e:List Nat) (rest:List Sgn),(∀ y∈l,RtP c f y)->ks.map er=l.map te->wfs l->(∀ s∈dX l,dD c f s)->(∀ j y,l[j]?=some y->bL ((par,i+j) :: wy) y.kd=true)->Iv gr e ((par,i) :: wy)->Av gr ((par,i) :: wy)->hk gr o e (dX l++rest) ->
  RTr c f gr (pps par wy i ks)/\∃ e',hk (gr+aI (pps par wy i ks)) o e' rest/\Iv (gr+aI (pps par wy i ks)) e' ((par,i) :: wy)
 | [],ks,i,gr,o,e,rest,_,h,_,_,_,hI,_,hh=>by
  obtain rfl:ks=[]:=by simpa using h
  rw [aY]
  rw [dX] at hh
  exact⟨RTr.nil _ _ _,e,by simpa [aI] using hh,by simpa [aI] using hI⟩
 | y :: l,u :: ks,i,gr,o,e,rest,ih,h,hw,hs,hst,hI,hA,hh=>by
  rw [l8,l8] at h
  injection h with h1 h2
  rw [wfs] at hw
  rw [dX] at hh hs
  rw [l7,vC,j7] at hh
  obtain⟨r1,e1,k1,i1⟩:=ih y (g7 ..) u ((par,i) :: wy) gr o e (dX l++rest) h1 hw.1 (fun s hs'=>hs s (b6 _ (List.mem_append_left _ hs'))) (by have:=hst 0 y rfl;simpa using this) hI hA hh
  obtain⟨r2,e2,k2,i2⟩:=zE l ks (i+1) _ o e1 rest (fun z hz=>ih z (b6 _ hz)) h2 hw.2 (fun s hs'=>hs s (b6 _ (List.mem_append_right _ hs'))) (fun j z hz=>by have:=hst (j+1) z (by simpa using hz);rwa [show i+(j+1)=i+1+j by omega] at this) (i1.turn _) ((fun y hy h7=>by
    rcases n7.1 hy with rfl | hy
    ·have:=hA (par,i) (g7 ..) h7;simp only at this ⊢;omega
    ·have:=hA y (b6 _ hy) h7;omega)) k1
  rw [aZ,cS,<- t9]
  exact⟨r1.append r2,e2,k2,i2.turn _⟩
 | y :: l,[],_,_,_,_,_,_,h,_,_,_,_,_,_=>by simp at h
theorem aM4{x:Ps}(h:jL x=true)(hw:wf x):cG x.kd=true/\x.kd≠6:=by
 cases x with
 | lf k n rs=>
  rw [wf] at hw
  rcases hw with rfl | rfl | rfl | rfl <;> simp [Ps.kd,cG]
 | grp=>simp [Ps.kd,cG]
 | rep=>simp [Ps.kd,cG]
 | row l=>simp only [Ps.kd];split <;> simp [cG]
 | alt=>simp [jL] at h
theorem aB1{x:Ps}(hw:wf x):cG x.kd=true:=by
 cases x with
 | alt=>simp [Ps.kd,cG]
 | _=>exact(aM4 rfl hw).1
theorem aR7{x:Ps}(h:fJ x=true):bA x.kd=true:=by
 cases x with
 | lf k n rs=>
  simp [fJ] at h
  rcases h with rfl | rfl <;> simp [Ps.kd,bA]
 | grp=>simp [Ps.kd,bA]
 | rep=>simp [Ps.kd,bA]
 | row=>simp [fJ] at h
 | alt=>simp [fJ] at h
theorem aT9(c f:Bool)(x:Ps):RtP c f x:=by
 refine Ps.ind (P:=RtP c f) (fun x ih=>?_) x
 intro t wy gr o e rest h hw hs hst hI hA hh
 have hft:t.f.k=x.kd:=by rw [<- aS8,h,aO2]
 rw [cD]
 cases x with
 | lf k n rs=>
  rw [te] at h
  obtain⟨f1,f2,f3,f4,f5,f6⟩:=hU h
  rw [show t.ks=[] by simpa using f6,aY]
  have hs:=hs (.lf k n rs) (by rw [pfl];simp)
  rw [pfl,List.singleton_append,hk] at hh
  rw [wf] at hw
  have g0:aI [(wy,t)]=0:=by
   simp only [aI,f1]
   rcases hw with rfl | rfl | rfl | rfl <;> simp
  rw [g0,aAE]
  refine⟨RTr.one ⟨by rw [hft];exact hst,?_,?_,fun z=>?_,fun z=>?_⟩,e,hh.2,hI⟩
  ·simp only
   unfold aP
   rw [f1,f2,f3,f4,f5]
   rcases hw with rfl | rfl | rfl | rfl
   ·rw [if_pos rfl];exact⟨(hs.1 rfl).1,(hs.1 rfl).2,rfl,rfl⟩
   ·rw [if_neg (by decide),if_neg (by decide),if_neg (by decide),if_neg (by decide),hs.2.1 (by decide),hs.2.2.2 (by decide)];simp
   ·rw [if_neg (by decide),if_neg (by decide),if_neg (by decide),if_neg (by decide),hs.2.1 (by decide),hs.2.2.2 (by decide)];simp
   ·rw [if_neg (by decide),if_neg (by decide),if_pos rfl,hs.2.1 (by decide)];exact⟨hs.2.2.1 rfl,rfl,rfl,rfl⟩
  ·simp only
   rw [show t.ks=[] by simpa using f6,f1]
   rcases hw with rfl | rfl | rfl | rfl <;> simp [dL]
  ·simp only at z
   rcases hw with rfl | rfl | rfl | rfl <;> (rw [f1] at z;cases z)
  ·simp only at z ⊢
   obtain⟨i,hi,e1⟩:=hh.1 (f1.symm.trans z)
   have:=hI i hi
   rw [f2,e1]
   exact⟨this.2,by omega⟩
 | grp n k=>
  rw [te] at h
  obtain⟨f1,f2,f3,f4,f5,f6⟩:=hU h
  obtain⟨u,e1,hu⟩:=pV f6
  rw [wf] at hw
  rw [pfl] at hh hs
  rw [l7,hk] at hh
  obtain⟨rfl,hg,hh⟩:=hh
  rw [j7] at hh
  have hA':Av (gr+1) ((t,0) :: wy):=(hA.mono (by omega)).down 0 (fun _=>by rw [f2];omega)
  have hI':Iv (gr+1) e ((t,0) :: wy):=fun m hm=>⟨by have:=(hI m hm).1;omega,by
   rw [eG,(hI m hm).2,f2]
   have:=(hI m hm).1
   have e2:(((gr+1:Nat):Int)==(m:Int))=false:=by rw [a8];omega
   rw [e2];simp⟩
  have hst':bL ((t,0) :: wy) k.kd=true:=by
   simp only [bL,cK]
   rw [f1,if_neg (by decide),if_neg (by decide),if_neg (by decide)]
   exact aB1 hw
  obtain⟨r1,e',k1,i1⟩:=ih k (by simp [Ps.kids]) u ((t,0) :: wy) (gr+1) ((gr+1) :: o) e ([.cl]++rest) hu hw (fun s hs'=>hs s (b6 _ (List.mem_append_left _ hs'))) hst' hI' hA' hh
  rw [List.singleton_append,hk] at k1
  obtain⟨n2,o2,eo,k2⟩:=k1
  injection eo with eo1 eo2
  subst eo1 eo2
  rw [e1,aZ,aY,l9]
  have g1:aI ((wy,t) :: pp ((t,0) :: wy) u)=1+aI (pp ((t,0) :: wy) u):=by simp only [aI,f1,if_pos]
  rw [g1,show gr+(1+aI (pp ((t,0) :: wy) u))=gr+1+aI (pp ((t,0) :: wy) u) by omega]
  refine⟨?_,(gr+1) :: e',k2,?_⟩
  ·refine RTr.append (A:=[(wy,t)]) (RTr.one ⟨by rw [hft];exact hst,?_,?_,fun _=>by rw [f2];omega,fun z=>by simp only at z;rw [f1] at z;cases z⟩) ?_
   ·simp only
    unfold aP
    rw [f1,f2,f3,f4,f5,if_neg (by decide),if_pos rfl]
    exact⟨by omega,rfl,rfl,rfl⟩
   ·simp only
    rw [e1,f1]
    rfl
   ·have g2:aI [(wy,t)]=1:=by simp [aI,f1]
    rw [g2]
    exact r1
  ·intro m hm
   rcases n7.1 hm with rfl | hm
   ·exact⟨by omega,hA.end_ (by omega)⟩
   ·exact i1.up m hm
 | rep a b k=>
  rw [te] at h
  obtain⟨f1,f2,f3,f4,f5,f6⟩:=hU h
  obtain⟨u,e1,hu⟩:=pV f6
  rw [wf] at hw
  rw [pfl] at hh hs
  rw [j7] at hh
  have hb:eW a b=true:=hs (.rp a b) (by simp)
  have hst':bL ((t,0) :: wy) k.kd=true:=by
   simp only [bL,cK]
   rw [f1,if_neg (by decide),if_pos rfl]
   exact aR7 hw.1
  obtain⟨r1,e',k1,i1⟩:=ih k (by simp [Ps.kids]) u ((t,0) :: wy) gr o e ([.rp a b]++rest) hu hw.2 (fun s hs'=>hs s (List.mem_append_left _ hs')) hst' (hI.down 0 (by rw [f1];decide)) (hA.down 0 (fun z=>by rw [f1] at z;cases z)) hh
  rw [List.singleton_append,aU9] at k1
  rw [e1,aZ,aY,l9]
  have g1:aI ((wy,t) :: pp ((t,0) :: wy) u)=aI (pp ((t,0) :: wy) u):=by simp [aI,f1]
  rw [g1]
  refine⟨?_,e',k1,i1.up⟩
  refine RTr.append (A:=[(wy,t)]) (RTr.one ⟨by rw [hft];exact hst,?_,?_,fun z=>(by simp only at z;rw [f1] at z;cases z),fun z=>(by simp only at z;rw [f1] at z;cases z)⟩) ?_
  ·simp only
   unfold aP
   rw [f1,f2,f3,f4,f5,if_neg (by decide),if_neg (by decide),if_neg (by decide),if_pos rfl]
   exact⟨hb,rfl,rfl⟩
  ·simp only
   rw [e1,f1]
   rfl
  ·have g2:aI [(wy,t)]=0:=by simp [aI,f1]
   rw [g2]
   exact r1
 | row l=>
  rw [wf] at hw
  obtain⟨hw1,hw2,hw3⟩:=hw
  rw [pfl] at hh hs
  rw [te] at h
  by_cases hl:l=[]
  ·subst hl
   rw [if_pos (show ([]:List Ps).isEmpty=true from rfl)] at h
   obtain⟨f1,f2,f3,f4,f5,f6⟩:=hU h
   rw [show t.ks=[] by simpa using f6,aY]
   rw [eC] at hh
   have g0:aI [(wy,t)]=0:=by simp [aI,f1]
   rw [g0,aAE]
   refine⟨RTr.one ⟨by rw [hft];exact hst,?_,?_,fun z=>(by simp only at z;rw [f1] at z;cases z),fun z=>(by simp only at z;rw [f1] at z;cases z)⟩,e,hh,hI⟩
   ·simp only
    unfold aP
    rw [f1,f2,f3,f4,f5,if_neg (by decide),if_neg (by decide),if_neg (by decide),if_neg (by decide)]
    exact⟨rfl,rfl,rfl,rfl⟩
   ·simp only
    rw [show t.ks=[] by simpa using f6,f1]
    rfl
  ·rw [if_neg (by simpa using hl)] at h
   obtain⟨f1,f2,f3,f4,f5,f6⟩:=hU h
   rw [bJ] at f6
   have hlen:t.ks.length=l.length:=by have:=congrArg List.length f6;simpa using this
   have h2:2<=l.length:=by
    have:l.length≠0:=fun z=>hl (n8 z)
    omega
   obtain⟨r1,e',k1,i1⟩:=zF (par:=t) (wy:=wy) l t.ks 0 gr o e rest ih f6 hw3 hs (fun j y hy=>by
    have hy':=hw2 j y hy
    rw [a7]
    simp only [bL,cK]
    rw [f1,if_pos rfl,hlen]
    have hwy:=(cT l).1 hw3 y (i5 hy)
    have hj:=(i7.1 hy).1
    cases y with
    | lf k n rs=>
     rw [wf] at hwy
     rcases hwy with rfl | rfl | rfl | rfl
     ·simp [Ps.kd,bA]
     ·have:=hy'.2.1 rfl
      subst this
      simp [Ps.kd]
     ·have:=hy'.2.2 rfl
      have e3:((j:Int)==(l.length:Int)-1)=true:=by rw [beq_iff_eq];omega
      rw [e3]
      simp [Ps.kd]
     ·simp [Ps.kd,bA]
    | grp=>simp [Ps.kd,bA]
    | rep=>simp [Ps.kd,bA]
    | row=>simp [gN] at hy'
    | alt=>simp [gN] at hy') (hI.down 0 (by rw [f1];decide)) (hA.down 0 (fun z=>by rw [f1] at z;cases z)) hh
   have g1:aI ((wy,t) :: pps t wy 0 t.ks)=aI (pps t wy 0 t.ks):=by simp [aI,f1]
   rw [g1]
   refine⟨?_,e',k1,i1.up⟩
   refine RTr.append (A:=[(wy,t)]) (RTr.one ⟨by rw [hft];exact hst,?_,?_,fun z=>(by simp only at z;rw [f1] at z;cases z),fun z=>(by simp only at z;rw [f1] at z;cases z)⟩) ?_
   ·simp only
    unfold aP
    rw [f1,f2,f3,f4,f5,if_neg (by decide),if_neg (by decide),if_neg (by decide),if_neg (by decide)]
    exact⟨rfl,rfl,rfl,rfl⟩
   ·simp only
    rw [f1,hlen]
    simp [dL,h2]
   ·have g2:aI [(wy,t)]=0:=by simp [aI,f1]
    rw [g2]
    exact r1
 | alt l=>
  rw [wf] at hw
  obtain⟨hw1,hw2,hw3⟩:=hw
  rw [pfl] at hh hs
  rw [te] at h
  obtain⟨f1,f2,f3,f4,f5,f6⟩:=hU h
  rw [bJ] at f6
  have hlen:t.ks.length=l.length:=by have:=congrArg List.length f6;simpa using this
  have hh2:hk gr o e (dX l++rest):=by
   cases l with
   | nil=>simp at hw1
   | cons y l=>rw [jW] at hh;rw [dX,l7,vC];exact hh
  have hs2:∀ s∈dX l,dD c f s:=by
   cases l with
   | nil=>simp at hw1
   | cons y l=>
    rw [jW] at hs
    rw [dX]
    intro s hs'
    rcases n7.1 hs' with rfl | hs'
    ·trivial
    ·exact hs s hs'
  obtain⟨r1,e',k1,i1⟩:=zE (par:=t) (wy:=wy) l t.ks 0 gr o e rest ih f6 hw3 hs2 (fun j y hy=>by
   have hy':=aM4 (hw2 y (i5 hy)) ((cT l).1 hw3 y (i5 hy))
   simp only [bL,cK]
   rw [f1,if_neg (by decide),if_neg (by decide),if_pos rfl,hy'.1]
   simpa using hy'.2) (hI.down 0 (by rw [f1];decide)) (hA.down 0 (fun z=>by rw [f1] at z;cases z)) hh2
  have g1:aI ((wy,t) :: pps t wy 0 t.ks)=aI (pps t wy 0 t.ks):=by simp [aI,f1]
  rw [g1]
  refine⟨?_,e',k1,i1.up⟩
  refine RTr.append (A:=[(wy,t)]) (RTr.one ⟨by rw [hft];exact hst,?_,?_,fun z=>(by simp only at z;rw [f1] at z;cases z),fun z=>(by simp only at z;rw [f1] at z;cases z)⟩) ?_
  ·simp only
   unfold aP
   rw [f1,f2,f3,f4,f5,if_neg (by decide),if_neg (by decide),if_neg (by decide),if_neg (by decide)]
   exact⟨rfl,rfl,rfl,rfl⟩
  ·simp only
   rw [f1,hlen]
   simp [dL,hw1]
  ·have g2:aI [(wy,t)]=0:=by simp [aI,f1]
   rw [g2]
   exact r1
theorem zU{c f:Bool}{x:Ps}{t:Tr}(h:er t=te x)(hw:wf x)(hs:∀ s∈pfl x,dD c f s)(hh:hk 0 [] [] (pfl x))(h1:x.dp<=40)(h2:x.sz<=2000):aV c f 0 0 (pp [] t)=0:=by
 have hr:=(aT9 c f x t [] 0 [] [] [] h hw hs (aB1 hw) (fun n hn=>by cases hn) (fun y hy=>by cases hy) (by simpa using hh)).1
 have hd:=vI x t [] h
 have hl:(pp [] t).length<=2000:=by rw [cL,<- eF,h,eT];exact h2
 refine oW _ 0 0 fun pre y post e=>?_
 obtain⟨l1,l2,l3,l4,l5⟩:=hr pre y post e
 rw [a7] at l2 l5
 rw [a7,a7]
 have hpl:pre.length<2000:=by rw [e] at hl;simp at hl;omega
 have hdp:y.1.length+1<=40:=by
  have:eL (pp [] t)<=40:=by rw [hd];simpa using h1
  rw [e,kZ] at this
  simp only [eL] at this
  omega
 unfold bN
 rw [if_neg (by omega),if_neg (by omega),if_neg (fun z=>z ⟨l1,l2,l3⟩),if_neg (fun z=>by have:=l4 z.1;omega),if_neg (fun z=>z.2 (l5 z.1))]
section
open Go
theorem RTr.split{c f:Bool}{gr:Nat}{A B:List El}(h:RTr c f gr (A++B)):RTr c f gr A/\RTr c f (gr+aI A) B:=
 ⟨fun pre x post e=>h pre x (post++B) (by rw [e];simp),fun pre x post e=>by
  have:=h (A++pre) x post (by rw [e];simp)
  rwa [cS,<- t9] at this⟩
theorem RTr.head{c f:Bool}{gr:Nat}{x:El}{B:List El}(h:RTr c f gr (x :: B)):LKr c f x gr:=by
 have:=h [] x B rfl
 simpa [aI] using this
def Ev(gr:Nat)(e:List Nat)(wy:Way):Prop:=∀ n:Nat,1<=n->n<=gr->eZ wy (n:Int)=false->n∈e
theorem Ev.down{gr:Nat}{e:List Nat}{wy:Way}{t:Tr}(i:Nat)(h:Ev gr e wy):Ev gr e ((t,i) :: wy):=fun n h1 h2 h3=>by
 rw [eG] at h3
 simp only [Bool.or_eq_false_iff] at h3
 exact h n h1 h2 h3.2
theorem Ev.up{gr:Nat}{e:List Nat}{wy:Way}{t:Tr}{i:Nat}(h:Ev gr e ((t,i) :: wy))(hk:t.f.k≠7):Ev gr e wy:=fun n h1 h2 h3=>h n h1 h2 (by rw [eG,h3];simp [hk])
theorem Ev.turn{gr:Nat}{e:List Nat}{wy:Way}{t:Tr}{i:Nat}(j:Nat)(h:Ev gr e ((t,i) :: wy)):Ev gr e ((t,j) :: wy):=fun n h1 h2 h3=>h n h1 h2 (by rw [eG] at h3 ⊢;exact h3)
def PsP(c f:Bool)(t:Tr):Prop:=∀ (wy:Way) (gr:Nat) (o e:List Nat),RTr c f gr (pp wy t)->Ev gr e wy ->
 ∃ x,te x=er t/\wf x/\(∀ s∈pfl x,dD c f s)/\∃ e',Ev (gr+aI (pp wy t)) e' wy/\∀ rest,hk (gr+aI (pp wy t)) o e' rest->hk gr o e (pfl x++rest)
theorem tG{c f:Bool}{par:Tr}{wy:Way}:∀ (ks:List Tr) (i gr:Nat) (o e:List Nat),(∀ u∈ks,PsP c f u)->RTr c f gr (pps par wy i ks)->Ev gr e ((par,i) :: wy) ->
  ∃ l:List Ps,l.map te=ks.map er/\wfs l/\(∀ y∈l,∀ s∈pfl y,dD c f s)/\(∀ j y,l[j]?=some y->bL ((par,i+j) :: wy) y.kd=true) /\
   ∃ e',Ev (gr+aI (pps par wy i ks)) e' ((par,i) :: wy)/\∀ rest,hk (gr+aI (pps par wy i ks)) o e' rest->hk gr o e (eC l++rest)/\hk gr o e (dX l++rest)
 | [],i,gr,o,e,_,_,hE=>by
  refine⟨[],rfl,by rw [wfs];trivial,fun y hy=>(by cases hy),fun j y hy=>(by simp at hy),e,by rw [aY];simpa [aI] using hE,fun rest hr=>?_⟩
  rw [aY] at hr
  rw [eC,dX]
  exact⟨by simpa [aI] using hr,by simpa [aI] using hr⟩
 | u :: ks,i,gr,o,e,ih,hR,hE=>by
  rw [aZ] at hR ⊢
  obtain⟨r1,r2⟩:=hR.split
  obtain⟨x,x1,x2,x3,e1,x4,x5⟩:=ih u (g7 ..) _ gr o e r1 hE
  obtain⟨l,l1,l2,l3,l4,e2,l5,l6⟩:=tG ks (i+1) _ o e1 (fun v hv=>ih v (b6 _ hv)) r2 (x4.turn _)
  rw [cS,<- t9]
  refine⟨x :: l,by rw [l8,l8,x1,l1],by rw [wfs];exact⟨x2,l2⟩,fun y hy=>?_,fun j y hy=>?_,e2,l5.turn _,fun rest hr=>?_⟩
  ·rcases n7.1 hy with rfl | hy
   ·exact x3
   ·exact l3 y hy
  ·cases j with
   | zero=>
    simp at hy
    subst hy
    rw [cD] at r1
    have:=(r1.head).1
    rw [<- aO2,x1,aS8]
    exact this
   | succ j=>
    have:=l4 j y (by simpa using hy)
    rwa [show i+1+j=i+(j+1) by omega] at this
  ·obtain⟨q1,q2⟩:=l6 rest hr
   refine⟨?_,?_⟩
   ·rw [eC,j7];exact x5 _ q1
   ·rw [dX,l7,vC,j7];exact x5 _ q2
theorem aR9{y:Ps}(hw:wf y)(h1:y.kd≠1)(h5:y.kd≠5)(h6:y.kd≠6):gN y=true:=by
 cases y with
 | row l=>simp only [Ps.kd] at h1 h5;split at h1 <;> simp_all
 | alt l=>simp [Ps.kd] at h6
 | _=>rfl
theorem yH{y:Ps}(hw:wf y)(h:bA y.kd=true):fJ y=true:=by
 cases y with
 | lf k n rs=>simp only [Ps.kd,bA,fJ,Bool.or_eq_true,beq_iff_eq] at h ⊢;rw [wf] at hw;omega
 | row l=>simp only [Ps.kd,bA] at h;split at h <;> simp at h
 | alt l=>simp [Ps.kd,bA] at h
 | _=>rfl
theorem aU1(c f:Bool)(t:Tr):PsP c f t:=by
 refine Tr.ind (P:=PsP c f) (fun t ih=>?_) t
 intro wy gr o e hR hE
 rw [cD] at hR ⊢
 obtain⟨l1,l2,l3,l4,l5⟩:=hR.head
 simp only at l1 l2 l3 l4 l5
 have hR2:RTr c f (gr+aI [(wy,t)]) (pps t wy 0 t.ks):=(RTr.split (A:=[(wy,t)]) hR).2
 have hkind:cG t.f.k=true:=by
  match wy,l1 with
  | [],l1=>exact l1
  |(par,i) :: _,l1=>exact jQ l1
 simp only [cG,Bool.and_eq_true,u6] at hkind
 have hgm:aI ((wy,t) :: pps t wy 0 t.ks)=(if t.f.k=7 then 1 else 0)+aI (pps t wy 0 t.ks):=rfl
 have hg1:aI [(wy,t)]=if t.f.k=7 then 1 else 0:=by simp [aI]
 have leaf:∀ (x:Ps),t.ks=[]->te x=er t->wf x->(∀ s∈pfl x,dD c f s)->t.f.k≠7->(∀ rest,hk gr o e rest->hk gr o e (pfl x++rest)) ->
   ∃ x,te x=er t/\wf x/\(∀ s∈pfl x,dD c f s)/\∃ e',Ev (gr+aI ((wy,t) :: pps t wy 0 t.ks)) e' wy/\∀ rest,hk (gr+aI ((wy,t) :: pps t wy 0 t.ks)) o e' rest->hk gr o e (pfl x++rest):=fun x hk h1 h2 h3 h7 h4=>by
  have:aI ((wy,t) :: pps t wy 0 t.ks)=0:=by rw [hgm,hk,aY,if_neg h7];rfl
  rw [this,aAE]
  exact⟨x,h1,h2,h3,e,hE,h4⟩
 have nil_of:∀ {l:List (Int×Int)},l.length=0->l=[]:=fun h=>n8 h
 have kids0:t.f.k≠5->t.f.k≠6->t.f.k≠7->t.f.k≠9->t.ks=[]:=fun a b d g=>by
  unfold dL at l3
  rw [if_neg (by omega),if_neg (by omega)] at l3
  exact n8 (by simpa using l3)
 unfold aP at l2
 obtain⟨K,hK⟩:∃ K,t.f.k=K:=⟨_,rfl⟩
 have hcase:K=1\/K=2\/K=3\/K=4\/K=5\/K=6\/K=7\/K=8\/K=9:=by omega
 have hert:=bQ t
 rw [hK] at hert l2
 rcases hcase with rfl | rfl | rfl | rfl | rfl | rfl | rfl | rfl | rfl
 ·-- empty
  rw [if_neg (by decide),if_neg (by decide),if_neg (by decide),if_neg (by decide)] at l2
  have hks:=kids0 (by omega) (by omega) (by omega) (by omega)
  refine leaf (.row []) hks ?_ ?_ (fun s hs=>by rw [pfl,eC] at hs;cases hs) (by omega) (fun rest hr=>by rw [pfl,eC];exact hr)
  ·rw [hert,l2.1,l2.2.1,l2.2.2.1,nil_of l2.2.2.2,hks];rfl
  ·rw [wf];exact⟨by simp,fun i y hy=>by simp at hy,by rw [wfs];trivial⟩
 ·-- a set
  rw [if_pos rfl] at l2
  have hks:=kids0 (by omega) (by omega) (by omega) (by omega)
  refine leaf (.lf 2 0 t.f.rs) hks ?_ (by rw [wf];omega) (fun s hs=>?_) (by omega) (fun rest hr=>by rw [pfl];exact⟨fun q=>absurd q (by decide),hr⟩)
  ·rw [hert,l2.2.1,l2.2.2.1,l2.2.2.2,hks];rfl
  ·rw [pfl,s9] at hs
   subst hs
   exact⟨fun _=>⟨l2.1,rfl⟩,fun q=>absurd rfl q,fun q=>absurd q (by decide),fun _=>rfl⟩
 ·-- a beginning
  rw [if_neg (by decide),if_neg (by decide),if_neg (by decide),if_neg (by decide)] at l2
  have hks:=kids0 (by omega) (by omega) (by omega) (by omega)
  refine leaf (.lf 3 0 []) hks ?_ (by rw [wf];omega) (fun s hs=>?_) (by omega) (fun rest hr=>by rw [pfl];exact⟨fun q=>absurd q (by decide),hr⟩)
  ·rw [hert,l2.1,l2.2.1,l2.2.2.1,nil_of l2.2.2.2,hks];rfl
  ·rw [pfl,s9] at hs
   subst hs
   exact⟨fun q=>absurd q (by decide),fun _=>rfl,fun q=>absurd q (by decide),fun _=>rfl⟩
 ·-- an end
  rw [if_neg (by decide),if_neg (by decide),if_neg (by decide),if_neg (by decide)] at l2
  have hks:=kids0 (by omega) (by omega) (by omega) (by omega)
  refine leaf (.lf 4 0 []) hks ?_ (by rw [wf];omega) (fun s hs=>?_) (by omega) (fun rest hr=>by rw [pfl];exact⟨fun q=>absurd q (by decide),hr⟩)
  ·rw [hert,l2.1,l2.2.1,l2.2.2.1,nil_of l2.2.2.2,hks];rfl
  ·rw [pfl,s9] at hs
   subst hs
   exact⟨fun q=>absurd q (by decide),fun _=>rfl,fun q=>absurd q (by decide),fun _=>rfl⟩
 ·-- one behind the other
  rw [if_neg (by decide),if_neg (by decide),if_neg (by decide),if_neg (by decide)] at l2
  rw [hg1,hK,if_neg (by decide),aAE] at hR2
  obtain⟨l,m1,m2,m3,m4,e',m5,m6⟩:=tG t.ks 0 gr o e (fun u hu=>ih u hu) hR2 (hE.down 0)
  have hlen:l.length=t.ks.length:=by rw [<- r7 te,m1,r7]
  have h2:2<=t.ks.length:=by unfold dL at l3;rw [if_pos (by omega)] at l3;simpa using l3
  rw [hgm,hK,if_neg (by decide),a7]
  refine⟨.row l,?_,?_,fun s hs=>?_,e',m5.up (by omega),fun rest hr=>?_⟩
  ·have:l.isEmpty=false:=by cases l with
    | nil=>simp at hlen;omega
    | cons y l=>rfl
   rw [te,this,hert,l2.1,l2.2.1,l2.2.2.1,nil_of l2.2.2.2,bJ,m1];rfl
  ·rw [wf]
   refine⟨by omega,fun i y hy=>?_,m2⟩
   have hs:=m4 i y hy
   have hwy:=(cT l).1 m2 y (i5 hy)
   simp only [bL,cK] at hs
   rw [hK,if_pos rfl] at hs
   simp only [Bool.or_eq_true,Bool.and_eq_true,beq_iff_eq,bA] at hs
   refine⟨aR9 hwy (by omega) (by omega) (by omega),fun q=>by omega,fun q=>by omega⟩
  ·rw [pfl] at hs
   have:∀ (l:List Ps),(∀ y∈l,∀ s∈pfl y,dD c f s)->∀ s∈eC l,dD c f s:=by
    intro l
    induction l with
    | nil=>intro _ s hs;rw [eC] at hs;cases hs
    | cons y l ih2=>
     intro h s hs
     rw [eC] at hs
     rcases j6.1 hs with q | q
     ·exact h y (g7 ..) s q
     ·exact ih2 (fun z hz=>h z (b6 _ hz)) s q
   exact this l m3 s hs
  ·rw [pfl];exact(m6 rest hr).1
 ·-- one of some
  rw [if_neg (by decide),if_neg (by decide),if_neg (by decide),if_neg (by decide)] at l2
  rw [hg1,hK,if_neg (by decide),aAE] at hR2
  obtain⟨l,m1,m2,m3,m4,e',m5,m6⟩:=tG t.ks 0 gr o e (fun u hu=>ih u hu) hR2 (hE.down 0)
  have hlen:l.length=t.ks.length:=by rw [<- r7 te,m1,r7]
  have h2:2<=t.ks.length:=by unfold dL at l3;rw [if_pos (by omega)] at l3;simpa using l3
  rw [hgm,hK,if_neg (by decide),a7]
  have hfl:∀ rest,dX l++rest=.al :: (jW l++rest):=fun rest=>by
   cases l with
   | nil=>simp at hlen;omega
   | cons y l=>rw [dX,jW];simp
  refine⟨.alt l,?_,?_,fun s hs=>?_,e',m5.up (by omega),fun rest hr=>?_⟩
  ·rw [te,hert,l2.1,l2.2.1,l2.2.2.1,nil_of l2.2.2.2,bJ,m1]
  ·rw [wf]
   refine⟨by omega,fun y hy=>?_,m2⟩
   obtain⟨i,hi,e⟩:=List.getElem_of_mem hy
   have hs:=m4 i y (by rw [b7 hi,e])
   simp only [bL,cK] at hs
   rw [hK,if_neg (by decide),if_neg (by decide),if_pos rfl] at hs
   simp only [Bool.and_eq_true,bne_iff_ne] at hs
   cases y with
   | alt=>simp [Ps.kd] at hs
   | _=>rfl
  ·rw [pfl] at hs
   have:∀ (l:List Ps),(∀ y∈l,∀ s∈pfl y,dD c f s)->∀ s∈dX l,dD c f s:=by
    intro l
    induction l with
    | nil=>intro _ s hs;rw [dX] at hs;cases hs
    | cons y l ih2=>
     intro h s hs
     rw [dX] at hs
     rcases n7.1 hs with rfl | hs
     ·trivial
     rcases j6.1 hs with q | q
     ·exact h y (g7 ..) s q
     ·exact ih2 (fun z hz=>h z (b6 _ hz)) s q
   refine this l m3 s ?_
   have:=hfl []
   rw [l9,l9] at this
   rw [this]
   exact b6 _ hs
  ·have:=(m6 rest hr).2
   rw [hfl,vC] at this
   rw [pfl]
   exact this
 ·-- a group
  rw [if_neg (by decide),if_pos rfl] at l2
  rw [hg1,hK,if_pos rfl] at hR2
  obtain⟨u,hu⟩:∃ u,t.ks=[u]:=by
   unfold dL at l3
   rw [hK,if_neg (by decide),if_pos (by decide)] at l3
   match t.ks,l3 with
   | [u],_=>exact⟨u,rfl⟩
  have h30:=l4 hK
  rw [hu,aZ,aY,l9] at hR2
  have hE2:Ev (gr+1) e ((t,0) :: wy):=fun n h1 h2 h3=>by
   rw [eG,l2.1,hK] at h3
   simp only [Bool.or_eq_false_iff,beq_self_eq_true,Bool.true_and,a8] at h3
   exact hE n h1 (by omega) h3.2
  obtain⟨x,x1,x2,x3,e',x4,x5⟩:=ih u (by rw [hu];simp) ((t,0) :: wy) (gr+1) ((gr+1) :: o) e hR2 hE2
  rw [hgm,hK,if_pos rfl,hu,aZ,aY,l9,<- t9]
  refine⟨.grp (gr+1) x,?_,by rw [wf];exact x2,fun s hs=>?_,(gr+1) :: e',fun n h1 h2 h3=>?_,fun rest hr=>?_⟩
  ·rw [te,hert,l2.1,l2.2.1,l2.2.2.1,nil_of l2.2.2.2,hu,x1];rfl
  ·rw [pfl] at hs
   rcases n7.1 hs with rfl | hs
   ·trivial
   rcases j6.1 hs with q | q
   ·exact x3 s q
   ·rw [s9] at q;subst q;trivial
  ·by_cases hn:n=gr+1
   ·rw [hn];exact g7 ..
   ·refine b6 _ (x4 n h1 h2 ?_)
    rw [eG,h3,l2.1]
    have:(((gr:Int)+1)==(n:Int))=false:=by rw [a8];omega
    rw [this];simp
  ·rw [pfl,l7,j7]
   refine⟨rfl,by omega,x5 _ ?_⟩
   exact⟨gr+1,o,rfl,hr⟩
 ·-- a backreference
  rw [if_neg (by decide),if_neg (by decide),if_pos rfl] at l2
  have hks:=kids0 (by omega) (by omega) (by omega) (by omega)
  obtain⟨b1,b2⟩:=l5 hK
  refine leaf (.lf 8 t.f.n []) hks ?_ (by rw [wf];omega) (fun s hs=>?_) (by omega) (fun rest hr=>by
   rw [pfl]
   refine⟨fun _=>⟨t.f.n.toNat,hE _ (by omega) (by omega) ?_,by omega⟩,hr⟩
   rw [show ((t.f.n.toNat:Nat):Int)=t.f.n by omega];exact b1)
  ·rw [hert,l2.2.1,l2.2.2.1,nil_of l2.2.2.2,hks];rfl
  ·rw [pfl,s9] at hs
   subst hs
   exact⟨fun q=>absurd q (by decide),fun _=>rfl,fun _=>l2.1,fun q=>absurd rfl q⟩
 ·-- how often
  rw [if_neg (by decide),if_neg (by decide),if_neg (by decide),if_pos rfl] at l2
  rw [hg1,hK,if_neg (by decide),aAE] at hR2
  obtain⟨u,hu⟩:∃ u,t.ks=[u]:=by
   unfold dL at l3
   rw [hK,if_neg (by decide),if_pos (by decide)] at l3
   match t.ks,l3 with
   | [u],_=>exact⟨u,rfl⟩
  rw [hu,aZ,aY,l9] at hR2
  obtain⟨x,x1,x2,x3,e',x4,x5⟩:=ih u (by rw [hu];simp) ((t,0) :: wy) gr o e hR2 (hE.down 0)
  have hth:fJ x=true:=by
   rw [cD] at hR2
   have:=(hR2.head).1
   simp only [bL,cK] at this
   rw [hK,if_neg (by decide),if_pos rfl] at this
   refine yH x2 ?_
   rw [<- aO2,x1,aS8]
   exact this
  rw [hgm,hK,if_neg (by decide),a7,hu,aZ,aY,l9]
  refine⟨.rep t.f.mn t.f.mx x,?_,by rw [wf];exact⟨hth,x2⟩,fun s hs=>?_,e',x4.up (by omega),fun rest hr=>?_⟩
  ·rw [te,hert,l2.2.1,nil_of l2.2.2,hu,x1];rfl
  ·rw [pfl] at hs
   rcases j6.1 hs with q | q
   ·exact x3 s q
   ·rw [s9] at q;subst q;exact l2.1
  ·rw [pfl,j7]
   exact x5 _ hr
theorem zL{c f:Bool}{t:Tr}(h:aV c f 0 0 (pp [] t)=0):∃ x,te x=er t/\wf x/\(∀ s∈pfl x,dD c f s)/\hk 0 [] [] (pfl x)/\x.dp<=40/\x.sz<=2000:=by
 have hall:=jB _ 0 0 h
 have hR:RTr c f 0 (pp [] t):=by
  intro pre x post e
  have:=hall pre x post e
  unfold bN at this
  split at this
  ·cases this
  split at this
  ·cases this
  split at this
  ·cases this
  rename_i h1
  split at this
  ·cases this
  rename_i h2
  split at this
  ·cases this
  rename_i h3
  have h1':=Classical.not_not.1 h1
  refine⟨h1'.1,h1'.2.1,h1'.2.2,fun q=>?_,fun q=>?_⟩
  ·have:¬ 30<x.2.f.n:=fun z=>h2 ⟨q,z⟩
   omega
  ·exact Classical.not_not.1 fun z=>h3 ⟨q,z⟩
 obtain⟨x,x1,x2,x3,e',-,x5⟩:=aU1 c f t [] 0 [] [] hR (fun n h1 h2=>by omega)
 have hk0:=x5 [] rfl
 rw [l9] at hk0
 have hd:=vI x t [] x1.symm
 have hdm:eL (pp [] t)<=40:=by
  have:∀ (L:List El),(∀ x∈L,x.1.length+1<=40)->eL L<=40:=by
   intro L
   induction L with
   | nil=>intro _;exact m7 _
   | cons x L ih2=>intro hL;simp only [eL];have:=hL x (g7 ..);have:=ih2 (fun y hy=>hL y (b6 _ hy));omega
  refine this _ fun y hy=>?_
  obtain⟨pre,post,e⟩:=List.append_of_mem hy
  have:=hall pre y post e
  unfold bN at this
  split at this
  ·cases this
  split at this
  ·cases this
  omega
 refine⟨x,x1,x2,x3,hk0,?_,?_⟩
 ·rw [hd] at hdm;simpa using hdm
 ·rw [<- eT,x1,eF,<- cL t []];exact oI h
end
def wY(a b:Int×Int):Bool:=decide (a.1<=b.1)
def srt(l:List (Int×Int)):List (Int×Int):=l.mergeSort wY
theorem kE(l:List (Int×Int)):(srt l).Perm l:=List.mergeSort_perm l wY
theorem yQ(l:List (Int×Int)):(srt l).Pairwise (fun a b=>a.1<=b.1):=by
 have h:=List.pairwise_mergeSort (le:=wY) (fun a b c h1 h2=>by unfold wY at *;simp at *;omega) (fun a b=>by unfold wY;simp;omega) l
 exact h.imp fun h=>by unfold wY at h;simpa using h
def unC(l:List (Int×Int)):List (Int×Int):=(srt l).foldl bC []
theorem vF:∀ (S C:List (Int×Int)),S.Pairwise (fun a b=>a.1<=b.1)->Cls C->(∀ r∈S,∀ x∈C,x.1<=r.1)->Cls (S.foldl bC C)/\∀ c,In (S.foldl bC C) c↔In C c\/In S c:=by
 intro S
 induction S with
 | nil=>intro C _ hC _;exact⟨hC,fun c=>⟨.inl,fun h=>h.elim id fun h=>absurd h (eX c)⟩⟩
 | cons r S ih=>
  intro C hp hC hl
  obtain⟨a1,a2,a3⟩:=lV (r:=r) hC (fun _=>hl r (g7 ..))
  have hp':=aAA.1 hp
  obtain⟨b1,b2⟩:=ih (bC C r) hp'.2 a1 (fun q hq x hx=>a3 q.1 (fun _=>hp'.1 q hq) (fun y hy=>hl q (b6 _ hq) y hy) x hx)
  refine⟨b1,fun c=>?_⟩
  rw [List.foldl_cons,b2,a2,bF]
  constructor
  ·rintro ((h | h) | h)
   ·exact .inl h
   ·exact .inr (.inl h)
   ·exact .inr (.inr h)
  ·rintro (h | h | h)
   ·exact .inl (.inl h)
   ·exact .inl (.inr h)
   ·exact .inr h
theorem oZ(l:List (Int×Int)):Cls (unC l):=(vF (srt l) [] (yQ l) mJ (fun _ _ _ h=>by cases h)).1
theorem mN(l:List (Int×Int))(c:Int):In (unC l) c↔In l c:=by
 rw [unC,(vF (srt l) [] (yQ l) mJ (fun _ _ _ h=>by cases h)).2,vA (kE l)]
 exact⟨fun h=>h.elim (fun h=>absurd h (eX c)) id,.inr⟩
theorem aC3:∀ (S C:List (Int×Int)),Fit S->Fit C->Fit (S.foldl bC C):=by
 intro S
 induction S with
 | nil=>intro C _ h;exact h
 | cons r S ih=>intro C hS hC;exact ih _ (dE hS fun _ hx=>b6 _ hx) (nM hC (dE hS fun x hx=>by simp at hx;subst hx;exact g7 ..))
theorem uC{l:List (Int×Int)}(h:Fit l):Fit (unC l):=aC3 _ _ (dE h fun _ hx=>(kE l).mem_iff.1 hx) eE
theorem aN9{l:List (Int×Int)}(h:Fit l):IsC (unC l) (In l):=⟨oZ l,uC h,mN l⟩
theorem vB{α:Type}(f:α->List (Int×Int))(l:List α)(c:Int):In (l.flatMap f) c ↔ ∃ x∈l,In (f x) c:=by
 induction l with
 | nil=>simp [In]
 | cons x l ih=>rw [s4,bZ,ih];simp
theorem pZ{x:Ps}(h:isS x=true):∃ n rs,x=.lf 2 n rs:=by
 cases x with
 | lf k n rs=>exact⟨n,rs,by simp [isS] at h;rw [h]⟩
 | grp=>simp [isS] at h
 | rep=>simp [isS] at h
 | row=>simp [isS] at h
 | alt=>simp [isS] at h
theorem sW{c f:Bool}{l:List Ps}(h:∀ x∈l,isS x=true/\∀ s∈pfl x,dD c f s):dD c f (.lf 2 0 (unC (l.flatMap rsP))):=by
 have hs:∀ x∈l,jR c f (rsP x):=fun x hx=>by
  obtain⟨n,rs,rfl⟩:=pZ (h x hx).1
  exact((h _ hx).2 (.lf 2 n rs) (by simp [pfl])).1 rfl |>.1
 have hF:Fit (l.flatMap rsP):=fun r hr=>by
  obtain⟨x,hx,hr⟩:=aAF.1 hr
  exact(hs x hx).1.fit r hr
 refine⟨fun _=>⟨⟨⟨oZ _,uC hF,fun c=>?_⟩,fun hf x=>?_⟩,rfl⟩,fun h=>absurd rfl h,fun h=>absurd h (by decide),fun _=>rfl⟩
 ·refine⟨fun q=>⟨q,?_⟩,fun q=>q.1⟩
  obtain⟨x,hx,hq⟩:=(vB rsP l c).1 ((mN _ _).1 q)
  exact((hs x hx).1.mem c |>.1 hq).2
 ·refine⟨.inl,fun q=>?_⟩
  have hone:∀ y,In (unC (l.flatMap rsP)) y ↔ ∃ z∈l,In (rsP z) y:=fun y=>(mN _ _).trans (vB rsP l y)
  unfold jO at q
  rw [hone,hone,hone] at q
  rw [hone]
  rcases q with q | ⟨⟨z,hz,q⟩,q1,q2⟩ | ⟨⟨z,hz,q⟩,q1,q2⟩
  ·exact q
  ·exact⟨z,hz,((hs z hz).2 hf x).2 (.inr (.inl ⟨q,q1,q2⟩))⟩
  ·exact⟨z,hz,((hs z hz).2 hf x).2 (.inr (.inr ⟨q,q1,q2⟩))⟩
structure PsOK(c f:Bool)(x:Ps):Prop where
 wf:wf x
 sg:∀ s∈pfl x,dD c f s
 hk:hk 0 [] [] (pfl x)
 dp:x.dp<=40
 sz:x.sz<=2000
theorem PsOK.sim{c f:Bool}{x:Ps}(h:PsOK c f x):PsOK c f (sim unC x):=
 ⟨lH unC x h.wf,sU unC (P:=dD c f) True.intro (fun _ hl _=>sW hl) x h.sg,aP3 unC h.hk,j4 (aP4 unC x) h.dp,j4 (mU unC x) h.sz⟩
theorem PsOK.right{c f:Bool}{x:Ps}(h:PsOK c f x){t:Tr}(e:er t=te x):aV c f 0 0 (pp [] t)=0:=zU e h.wf h.sg h.hk h.dp h.sz
theorem aU5{c f:Bool}{t:Tr}(h:aV c f 0 0 (pp [] t)=0):∃ x,er t=te x/\PsOK c f x:=by
 obtain⟨x,h1,h2,h3,h4,h5,h6⟩:=zL h
 exact⟨x,h1.symm,h2,h3,h4,h5,h6⟩
end Go.Proofs.YtlamifbjklpdbaaGreat
