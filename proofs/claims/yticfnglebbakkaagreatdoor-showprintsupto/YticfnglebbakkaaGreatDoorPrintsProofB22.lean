/-
  Parts of the proof.
-/
import Derived.Test.YticfnglebbakkaaGreatDoorPrintsProofB20
import Derived.Test.YticfnglebbakkaaGreatDoorPrintsProofB21
import Derived.Test.YticfnglebbakkaaGreatDoorPrintsProofB17
import Derived.Test.YticfnglebbakkaaGreatDoorPrintsProofB9
set_option maxRecDepth 100000
set_option maxHeartbeats 8000000
namespace Go.Proofs.YticfnglebbakkaaGreatDoor
open Go Go.RowKit
theorem aH9(k:Int)(w:World):Calls Tryz.prog 157 #[.int .i64 k] w fun e w'=>e=.returned (.bool (aZ k))/\w'=w:=by
 have hid:∀ b,aZ k=b->Calls Tryz.prog 157 #[.int .i64 k] w fun e w'=>e=.returned (.bool b)/\w'=w:=by
  intro b hb
  by_cases h2:k=2
  ·have e2:(k==2)=true:=by simpa using h2
   have hB:b=true:=by rw [<- hb];simp [aZ,h2]
   subst hB
   clear h2 hb
   go_enter Tryz.func157,Tryz.ntmps157
   go_wp2
   go_ret
   exact⟨rfl,rfl⟩
  have e2:(k==2)=false:=by simpa using h2
  by_cases h7:k=7
  ·have e7:(k==7)=true:=by simpa using h7
   have hB:b=true:=by rw [<- hb];simp [aZ,h7]
   subst hB
   clear h2 h7 hb
   go_enter Tryz.func157,Tryz.ntmps157
   go_wp2
   go_ret
   exact⟨rfl,rfl⟩
  have e7:(k==7)=false:=by simpa using h7
  by_cases h8:k=8
  ·have e8:(k==8)=true:=by simpa using h8
   have hB:b=true:=by rw [<- hb];simp [aZ,h8]
   subst hB
   clear h2 h7 h8 hb
   go_enter Tryz.func157,Tryz.ntmps157
   go_wp2
   go_ret
   exact⟨rfl,rfl⟩
  have e8:(k==8)=false:=by simpa using h8
  by_cases h9:k=9
  ·have e9:(k==9)=true:=by simpa using h9
   have hB:b=true:=by rw [<- hb];simp [aZ,h9]
   subst hB
   clear h2 h7 h8 h9 hb
   go_enter Tryz.func157,Tryz.ntmps157
   go_wp2
   go_ret
   exact⟨rfl,rfl⟩
  have e9:(k==9)=false:=by simpa using h9
  have hB:b=false:=by rw [<- hb];simp [aZ,h2,h7,h8,h9]
  subst hB
  clear h2 h7 h8 h9 hb
  go_enter Tryz.func157,Tryz.ntmps157
  go_wp2
  go_ret
  exact⟨rfl,rfl⟩
 exact hid _ rfl
theorem aB7(a b:Int)(w:World):Calls Tryz.prog 136 #[.int .i64 a,.int .i64 b] w fun e w'=>e=.returned (.bool (dL a b))/\w'=w:=by
 have hid:∀ r,dL a b=r->Calls Tryz.prog 136 #[.int .i64 a,.int .i64 b] w fun e w'=>e=.returned (.bool r)/\w'=w:=by
  intro r hr
  by_cases h1:(0:Int)<=a
  case neg=>
   have hB:r=false:=by rw [<- hr];simp [dL];omega
   subst hB
   clear hr
   go_enter Tryz.func136,Tryz.ntmps136
   go_wp2
   go_ret
   exact⟨rfl,rfl⟩
  by_cases h2:a<=255
  case neg=>
   have hB:r=false:=by rw [<- hr];simp [dL];omega
   subst hB
   clear hr
   go_enter Tryz.func136,Tryz.ntmps136
   go_wp2
   go_ret
   exact⟨rfl,rfl⟩
  by_cases h3:b=-1
  ·have e3:(b==-1)=true:=by simpa using h3
   have hB:r=true:=by rw [<- hr];simp [dL];omega
   subst hB
   clear hr
   go_enter Tryz.func136,Tryz.ntmps136
   go_wp2
   go_ret
   exact⟨rfl,rfl⟩
  have e3:(b==-1)=false:=by simpa using h3
  by_cases h4:a<=b
  case neg=>
   have hB:r=false:=by rw [<- hr];simp [dL];omega
   subst hB
   clear hr
   go_enter Tryz.func136,Tryz.ntmps136
   go_wp2
   go_ret
   exact⟨rfl,rfl⟩
  by_cases h5:b<=255
  case neg=>
   have hB:r=false:=by rw [<- hr];simp [dL];omega
   subst hB
   clear hr
   go_enter Tryz.func136,Tryz.ntmps136
   go_wp2
   go_ret
   exact⟨rfl,rfl⟩
  have hB:r=true:=by rw [<- hr];simp [dL];omega
  subst hB
  clear hr
  go_enter Tryz.func136,Tryz.ntmps136
  go_wp2
  go_ret
  exact⟨rfl,rfl⟩
 exact hid _ rfl
theorem vM(F:Fl)(w:World):Calls Tryz.prog 134 #[.agg #[.int .i64 F.k,.int .i64 F.n,.int .i64 F.mn,.int .i64 F.mx,.slice F.rq F.rs.length F.rc,.slice F.kq F.kl F.kc],.bool false,.bool false,.bool false,.bool false] w fun e w'=>e=.returned (.bool (decide (F.n=0/\F.mn=0/\F.mx=0/\F.rs.length=0/\F.kl=0)))/\Below w.heap.size w w':=by
 have N1:BoxN (w.alloc (.cells #[.int .i64 F.k,.int .i64 F.n,.int .i64 F.mn,.int .i64 F.mx,.slice F.rq F.rs.length F.rc,.slice F.kq F.kl F.kc] 25)) w.heap.size F:=aF w _
 have B1:Hid (Below w.heap.size w (w.alloc (.cells #[.int .i64 F.k,.int .i64 F.n,.int .i64 F.mn,.int .i64 F.mx,.slice F.rq F.rs.length F.rc,.slice F.kq F.kl F.kc] 25))):=bz9
 obtain⟨c0,c1,c2,c3,c4,c5⟩:=N1.six
 simp only [Nat.zero_add] at c1 c2 c3 c4 c5
 clear N1
 have hid:∀ r,decide (F.n=0/\F.mn=0/\F.mx=0/\F.rs.length=0/\F.kl=0)=r->Calls Tryz.prog 134 #[.agg #[.int .i64 F.k,.int .i64 F.n,.int .i64 F.mn,.int .i64 F.mx,.slice F.rq F.rs.length F.rc,.slice F.kq F.kl F.kc],.bool false,.bool false,.bool false,.bool false] w fun e w'=>e=.returned (.bool r)/\Below w.heap.size w w':=by
  intro r hr0
  by_cases hn:F.n=0
  case neg=>
   have ehn:(F.n==0)=false:=beq_eq_false_iff_ne.2 (by omega)
   have hB:r=false:=by rw [<- hr0];exact decide_eq_false (by omega)
   clear hn
   subst hB
   clear hr0
   go_enter Tryz.func134,Tryz.ntmps134
   go_wp2
   go_ret
   exact⟨rfl,B1.out⟩
  have ehn:(F.n==0)=true:=beq_iff_eq.2 (by omega)
  have Hhn:=aB hn
  clear hn
  by_cases hm:F.mn=0
  case neg=>
   have ehm:(F.mn==0)=false:=beq_eq_false_iff_ne.2 (by omega)
   have hB:r=false:=by rw [<- hr0];exact decide_eq_false (by omega)
   clear hm
   subst hB
   clear hr0
   go_enter Tryz.func134,Tryz.ntmps134
   go_wp2
   go_ret
   exact⟨rfl,B1.out⟩
  have ehm:(F.mn==0)=true:=beq_iff_eq.2 (by omega)
  have Hhm:=aB hm
  clear hm
  by_cases hx:F.mx=0
  case neg=>
   have ehx:(F.mx==0)=false:=beq_eq_false_iff_ne.2 (by omega)
   have hB:r=false:=by rw [<- hr0];exact decide_eq_false (by omega)
   clear hx
   subst hB
   clear hr0
   go_enter Tryz.func134,Tryz.ntmps134
   go_wp2
   go_ret
   exact⟨rfl,B1.out⟩
  have ehx:(F.mx==0)=true:=beq_iff_eq.2 (by omega)
  have Hhx:=aB hx
  clear hx
  by_cases hr:F.rs.length=0
  case neg=>
   have ehr:((F.rs.length:Int)==0)=false:=beq_eq_false_iff_ne.2 (by omega)
   have hB:r=false:=by rw [<- hr0];exact decide_eq_false (by omega)
   clear hr
   subst hB
   clear hr0
   go_enter Tryz.func134,Tryz.ntmps134
   go_wp2
   go_ret
   exact⟨rfl,B1.out⟩
  have ehr:((F.rs.length:Int)==0)=true:=beq_iff_eq.2 (by omega)
  have Hhr:=aB hr
  clear hr
  by_cases hk:F.kl=0
  case neg=>
   have ehk:((F.kl:Int)==0)=false:=beq_eq_false_iff_ne.2 (by omega)
   have hB:r=false:=by rw [<- hr0];exact decide_eq_false (by omega)
   clear hk
   subst hB
   clear hr0
   go_enter Tryz.func134,Tryz.ntmps134
   go_wp2
   go_ret
   exact⟨rfl,B1.out⟩
  have ehk:((F.kl:Int)==0)=true:=beq_iff_eq.2 (by omega)
  have Hhk:=aB hk
  clear hk
  have hB:r=true:=by rw [<- hr0];exact decide_eq_true (by have:=Hhn.out;have:=Hhm.out;have:=Hhx.out;have:=Hhr.out;have:=Hhk.out;omega)
  subst hB
  clear hr0
  go_enter Tryz.func134,Tryz.ntmps134
  go_wp2
  go_ret
  exact⟨rfl,B1.out⟩
 exact hid _ rfl
theorem vJ(F:Fl)(w:World):Calls Tryz.prog 134 #[.agg #[.int .i64 F.k,.int .i64 F.n,.int .i64 F.mn,.int .i64 F.mx,.slice F.rq F.rs.length F.rc,.slice F.kq F.kl F.kc],.bool false,.bool false,.bool true,.bool false] w fun e w'=>e=.returned (.bool (decide (F.n=0/\F.mn=0/\F.mx=0/\F.kl=0)))/\Below w.heap.size w w':=by
 have N1:BoxN (w.alloc (.cells #[.int .i64 F.k,.int .i64 F.n,.int .i64 F.mn,.int .i64 F.mx,.slice F.rq F.rs.length F.rc,.slice F.kq F.kl F.kc] 25)) w.heap.size F:=aF w _
 have B1:Hid (Below w.heap.size w (w.alloc (.cells #[.int .i64 F.k,.int .i64 F.n,.int .i64 F.mn,.int .i64 F.mx,.slice F.rq F.rs.length F.rc,.slice F.kq F.kl F.kc] 25))):=bz9
 obtain⟨c0,c1,c2,c3,c4,c5⟩:=N1.six
 simp only [Nat.zero_add] at c1 c2 c3 c4 c5
 clear N1
 have hid:∀ r,decide (F.n=0/\F.mn=0/\F.mx=0/\F.kl=0)=r->Calls Tryz.prog 134 #[.agg #[.int .i64 F.k,.int .i64 F.n,.int .i64 F.mn,.int .i64 F.mx,.slice F.rq F.rs.length F.rc,.slice F.kq F.kl F.kc],.bool false,.bool false,.bool true,.bool false] w fun e w'=>e=.returned (.bool r)/\Below w.heap.size w w':=by
  intro r hr0
  by_cases hn:F.n=0
  case neg=>
   have ehn:(F.n==0)=false:=beq_eq_false_iff_ne.2 (by omega)
   have hB:r=false:=by rw [<- hr0];exact decide_eq_false (by omega)
   clear hn
   subst hB
   clear hr0
   go_enter Tryz.func134,Tryz.ntmps134
   go_wp2
   go_ret
   exact⟨rfl,B1.out⟩
  have ehn:(F.n==0)=true:=beq_iff_eq.2 (by omega)
  have Hhn:=aB hn
  clear hn
  by_cases hm:F.mn=0
  case neg=>
   have ehm:(F.mn==0)=false:=beq_eq_false_iff_ne.2 (by omega)
   have hB:r=false:=by rw [<- hr0];exact decide_eq_false (by omega)
   clear hm
   subst hB
   clear hr0
   go_enter Tryz.func134,Tryz.ntmps134
   go_wp2
   go_ret
   exact⟨rfl,B1.out⟩
  have ehm:(F.mn==0)=true:=beq_iff_eq.2 (by omega)
  have Hhm:=aB hm
  clear hm
  by_cases hx:F.mx=0
  case neg=>
   have ehx:(F.mx==0)=false:=beq_eq_false_iff_ne.2 (by omega)
   have hB:r=false:=by rw [<- hr0];exact decide_eq_false (by omega)
   clear hx
   subst hB
   clear hr0
   go_enter Tryz.func134,Tryz.ntmps134
   go_wp2
   go_ret
   exact⟨rfl,B1.out⟩
  have ehx:(F.mx==0)=true:=beq_iff_eq.2 (by omega)
  have Hhx:=aB hx
  clear hx
  by_cases hk:F.kl=0
  case neg=>
   have ehk:((F.kl:Int)==0)=false:=beq_eq_false_iff_ne.2 (by omega)
   have hB:r=false:=by rw [<- hr0];exact decide_eq_false (by omega)
   clear hk
   subst hB
   clear hr0
   go_enter Tryz.func134,Tryz.ntmps134
   go_wp2
   go_ret
   exact⟨rfl,B1.out⟩
  have ehk:((F.kl:Int)==0)=true:=beq_iff_eq.2 (by omega)
  have Hhk:=aB hk
  clear hk
  have hB:r=true:=by rw [<- hr0];exact decide_eq_true (by have:=Hhn.out;have:=Hhm.out;have:=Hhx.out;have:=Hhk.out;omega)
  subst hB
  clear hr0
  go_enter Tryz.func134,Tryz.ntmps134
  go_wp2
  go_ret
  exact⟨rfl,B1.out⟩
 exact hid _ rfl
theorem vK(F:Fl)(w:World):Calls Tryz.prog 134 #[.agg #[.int .i64 F.k,.int .i64 F.n,.int .i64 F.mn,.int .i64 F.mx,.slice F.rq F.rs.length F.rc,.slice F.kq F.kl F.kc],.bool false,.bool false,.bool false,.bool true] w fun e w'=>e=.returned (.bool (decide (F.n=0/\F.mn=0/\F.mx=0/\F.rs.length=0)))/\Below w.heap.size w w':=by
 have N1:BoxN (w.alloc (.cells #[.int .i64 F.k,.int .i64 F.n,.int .i64 F.mn,.int .i64 F.mx,.slice F.rq F.rs.length F.rc,.slice F.kq F.kl F.kc] 25)) w.heap.size F:=aF w _
 have B1:Hid (Below w.heap.size w (w.alloc (.cells #[.int .i64 F.k,.int .i64 F.n,.int .i64 F.mn,.int .i64 F.mx,.slice F.rq F.rs.length F.rc,.slice F.kq F.kl F.kc] 25))):=bz9
 obtain⟨c0,c1,c2,c3,c4,c5⟩:=N1.six
 simp only [Nat.zero_add] at c1 c2 c3 c4 c5
 clear N1
 have hid:∀ r,decide (F.n=0/\F.mn=0/\F.mx=0/\F.rs.length=0)=r->Calls Tryz.prog 134 #[.agg #[.int .i64 F.k,.int .i64 F.n,.int .i64 F.mn,.int .i64 F.mx,.slice F.rq F.rs.length F.rc,.slice F.kq F.kl F.kc],.bool false,.bool false,.bool false,.bool true] w fun e w'=>e=.returned (.bool r)/\Below w.heap.size w w':=by
  intro r hr0
  by_cases hn:F.n=0
  case neg=>
   have ehn:(F.n==0)=false:=beq_eq_false_iff_ne.2 (by omega)
   have hB:r=false:=by rw [<- hr0];exact decide_eq_false (by omega)
   clear hn
   subst hB
   clear hr0
   go_enter Tryz.func134,Tryz.ntmps134
   go_wp2
   go_ret
   exact⟨rfl,B1.out⟩
  have ehn:(F.n==0)=true:=beq_iff_eq.2 (by omega)
  have Hhn:=aB hn
  clear hn
  by_cases hm:F.mn=0
  case neg=>
   have ehm:(F.mn==0)=false:=beq_eq_false_iff_ne.2 (by omega)
   have hB:r=false:=by rw [<- hr0];exact decide_eq_false (by omega)
   clear hm
   subst hB
   clear hr0
   go_enter Tryz.func134,Tryz.ntmps134
   go_wp2
   go_ret
   exact⟨rfl,B1.out⟩
  have ehm:(F.mn==0)=true:=beq_iff_eq.2 (by omega)
  have Hhm:=aB hm
  clear hm
  by_cases hx:F.mx=0
  case neg=>
   have ehx:(F.mx==0)=false:=beq_eq_false_iff_ne.2 (by omega)
   have hB:r=false:=by rw [<- hr0];exact decide_eq_false (by omega)
   clear hx
   subst hB
   clear hr0
   go_enter Tryz.func134,Tryz.ntmps134
   go_wp2
   go_ret
   exact⟨rfl,B1.out⟩
  have ehx:(F.mx==0)=true:=beq_iff_eq.2 (by omega)
  have Hhx:=aB hx
  clear hx
  by_cases hr:F.rs.length=0
  case neg=>
   have ehr:((F.rs.length:Int)==0)=false:=beq_eq_false_iff_ne.2 (by omega)
   have hB:r=false:=by rw [<- hr0];exact decide_eq_false (by omega)
   clear hr
   subst hB
   clear hr0
   go_enter Tryz.func134,Tryz.ntmps134
   go_wp2
   go_ret
   exact⟨rfl,B1.out⟩
  have ehr:((F.rs.length:Int)==0)=true:=beq_iff_eq.2 (by omega)
  have Hhr:=aB hr
  clear hr
  have hB:r=true:=by rw [<- hr0];exact decide_eq_true (by have:=Hhn.out;have:=Hhm.out;have:=Hhx.out;have:=Hhr.out;omega)
  subst hB
  clear hr0
  go_enter Tryz.func134,Tryz.ntmps134
  go_wp2
  go_ret
  exact⟨rfl,B1.out⟩
 exact hid _ rfl
theorem vG(F:Fl)(w:World):Calls Tryz.prog 134 #[.agg #[.int .i64 F.k,.int .i64 F.n,.int .i64 F.mn,.int .i64 F.mx,.slice F.rq F.rs.length F.rc,.slice F.kq F.kl F.kc],.bool true,.bool false,.bool false,.bool true] w fun e w'=>e=.returned (.bool (decide (F.mn=0/\F.mx=0/\F.rs.length=0)))/\Below w.heap.size w w':=by
 have N1:BoxN (w.alloc (.cells #[.int .i64 F.k,.int .i64 F.n,.int .i64 F.mn,.int .i64 F.mx,.slice F.rq F.rs.length F.rc,.slice F.kq F.kl F.kc] 25)) w.heap.size F:=aF w _
 have B1:Hid (Below w.heap.size w (w.alloc (.cells #[.int .i64 F.k,.int .i64 F.n,.int .i64 F.mn,.int .i64 F.mx,.slice F.rq F.rs.length F.rc,.slice F.kq F.kl F.kc] 25))):=bz9
 obtain⟨c0,c1,c2,c3,c4,c5⟩:=N1.six
 simp only [Nat.zero_add] at c1 c2 c3 c4 c5
 clear N1
 have hid:∀ r,decide (F.mn=0/\F.mx=0/\F.rs.length=0)=r->Calls Tryz.prog 134 #[.agg #[.int .i64 F.k,.int .i64 F.n,.int .i64 F.mn,.int .i64 F.mx,.slice F.rq F.rs.length F.rc,.slice F.kq F.kl F.kc],.bool true,.bool false,.bool false,.bool true] w fun e w'=>e=.returned (.bool r)/\Below w.heap.size w w':=by
  intro r hr0
  by_cases hm:F.mn=0
  case neg=>
   have ehm:(F.mn==0)=false:=beq_eq_false_iff_ne.2 (by omega)
   have hB:r=false:=by rw [<- hr0];exact decide_eq_false (by omega)
   clear hm
   subst hB
   clear hr0
   go_enter Tryz.func134,Tryz.ntmps134
   go_wp2
   go_ret
   exact⟨rfl,B1.out⟩
  have ehm:(F.mn==0)=true:=beq_iff_eq.2 (by omega)
  have Hhm:=aB hm
  clear hm
  by_cases hx:F.mx=0
  case neg=>
   have ehx:(F.mx==0)=false:=beq_eq_false_iff_ne.2 (by omega)
   have hB:r=false:=by rw [<- hr0];exact decide_eq_false (by omega)
   clear hx
   subst hB
   clear hr0
   go_enter Tryz.func134,Tryz.ntmps134
   go_wp2
   go_ret
   exact⟨rfl,B1.out⟩
  have ehx:(F.mx==0)=true:=beq_iff_eq.2 (by omega)
  have Hhx:=aB hx
  clear hx
  by_cases hr:F.rs.length=0
  case neg=>
   have ehr:((F.rs.length:Int)==0)=false:=beq_eq_false_iff_ne.2 (by omega)
   have hB:r=false:=by rw [<- hr0];exact decide_eq_false (by omega)
   clear hr
   subst hB
   clear hr0
   go_enter Tryz.func134,Tryz.ntmps134
   go_wp2
   go_ret
   exact⟨rfl,B1.out⟩
  have ehr:((F.rs.length:Int)==0)=true:=beq_iff_eq.2 (by omega)
  have Hhr:=aB hr
  clear hr
  have hB:r=true:=by rw [<- hr0];exact decide_eq_true (by have:=Hhm.out;have:=Hhx.out;have:=Hhr.out;omega)
  subst hB
  clear hr0
  go_enter Tryz.func134,Tryz.ntmps134
  go_wp2
  go_ret
  exact⟨rfl,B1.out⟩
 exact hid _ rfl
theorem vH(F:Fl)(w:World):Calls Tryz.prog 134 #[.agg #[.int .i64 F.k,.int .i64 F.n,.int .i64 F.mn,.int .i64 F.mx,.slice F.rq F.rs.length F.rc,.slice F.kq F.kl F.kc],.bool true,.bool false,.bool false,.bool false] w fun e w'=>e=.returned (.bool (decide (F.mn=0/\F.mx=0/\F.rs.length=0/\F.kl=0)))/\Below w.heap.size w w':=by
 have N1:BoxN (w.alloc (.cells #[.int .i64 F.k,.int .i64 F.n,.int .i64 F.mn,.int .i64 F.mx,.slice F.rq F.rs.length F.rc,.slice F.kq F.kl F.kc] 25)) w.heap.size F:=aF w _
 have B1:Hid (Below w.heap.size w (w.alloc (.cells #[.int .i64 F.k,.int .i64 F.n,.int .i64 F.mn,.int .i64 F.mx,.slice F.rq F.rs.length F.rc,.slice F.kq F.kl F.kc] 25))):=bz9
 obtain⟨c0,c1,c2,c3,c4,c5⟩:=N1.six
 simp only [Nat.zero_add] at c1 c2 c3 c4 c5
 clear N1
 have hid:∀ r,decide (F.mn=0/\F.mx=0/\F.rs.length=0/\F.kl=0)=r->Calls Tryz.prog 134 #[.agg #[.int .i64 F.k,.int .i64 F.n,.int .i64 F.mn,.int .i64 F.mx,.slice F.rq F.rs.length F.rc,.slice F.kq F.kl F.kc],.bool true,.bool false,.bool false,.bool false] w fun e w'=>e=.returned (.bool r)/\Below w.heap.size w w':=by
  intro r hr0
  by_cases hm:F.mn=0
  case neg=>
   have ehm:(F.mn==0)=false:=beq_eq_false_iff_ne.2 (by omega)
   have hB:r=false:=by rw [<- hr0];exact decide_eq_false (by omega)
   clear hm
   subst hB
   clear hr0
   go_enter Tryz.func134,Tryz.ntmps134
   go_wp2
   go_ret
   exact⟨rfl,B1.out⟩
  have ehm:(F.mn==0)=true:=beq_iff_eq.2 (by omega)
  have Hhm:=aB hm
  clear hm
  by_cases hx:F.mx=0
  case neg=>
   have ehx:(F.mx==0)=false:=beq_eq_false_iff_ne.2 (by omega)
   have hB:r=false:=by rw [<- hr0];exact decide_eq_false (by omega)
   clear hx
   subst hB
   clear hr0
   go_enter Tryz.func134,Tryz.ntmps134
   go_wp2
   go_ret
   exact⟨rfl,B1.out⟩
  have ehx:(F.mx==0)=true:=beq_iff_eq.2 (by omega)
  have Hhx:=aB hx
  clear hx
  by_cases hr:F.rs.length=0
  case neg=>
   have ehr:((F.rs.length:Int)==0)=false:=beq_eq_false_iff_ne.2 (by omega)
   have hB:r=false:=by rw [<- hr0];exact decide_eq_false (by omega)
   clear hr
   subst hB
   clear hr0
   go_enter Tryz.func134,Tryz.ntmps134
   go_wp2
   go_ret
   exact⟨rfl,B1.out⟩
  have ehr:((F.rs.length:Int)==0)=true:=beq_iff_eq.2 (by omega)
  have Hhr:=aB hr
  clear hr
  by_cases hk:F.kl=0
  case neg=>
   have ehk:((F.kl:Int)==0)=false:=beq_eq_false_iff_ne.2 (by omega)
   have hB:r=false:=by rw [<- hr0];exact decide_eq_false (by omega)
   clear hk
   subst hB
   clear hr0
   go_enter Tryz.func134,Tryz.ntmps134
   go_wp2
   go_ret
   exact⟨rfl,B1.out⟩
  have ehk:((F.kl:Int)==0)=true:=beq_iff_eq.2 (by omega)
  have Hhk:=aB hk
  clear hk
  have hB:r=true:=by rw [<- hr0];exact decide_eq_true (by have:=Hhm.out;have:=Hhx.out;have:=Hhr.out;have:=Hhk.out;omega)
  subst hB
  clear hr0
  go_enter Tryz.func134,Tryz.ntmps134
  go_wp2
  go_ret
  exact⟨rfl,B1.out⟩
 exact hid _ rfl
theorem vI(F:Fl)(w:World):Calls Tryz.prog 134 #[.agg #[.int .i64 F.k,.int .i64 F.n,.int .i64 F.mn,.int .i64 F.mx,.slice F.rq F.rs.length F.rc,.slice F.kq F.kl F.kc],.bool false,.bool true,.bool false,.bool true] w fun e w'=>e=.returned (.bool (decide (F.n=0/\F.rs.length=0)))/\Below w.heap.size w w':=by
 have N1:BoxN (w.alloc (.cells #[.int .i64 F.k,.int .i64 F.n,.int .i64 F.mn,.int .i64 F.mx,.slice F.rq F.rs.length F.rc,.slice F.kq F.kl F.kc] 25)) w.heap.size F:=aF w _
 have B1:Hid (Below w.heap.size w (w.alloc (.cells #[.int .i64 F.k,.int .i64 F.n,.int .i64 F.mn,.int .i64 F.mx,.slice F.rq F.rs.length F.rc,.slice F.kq F.kl F.kc] 25))):=bz9
 obtain⟨c0,c1,c2,c3,c4,c5⟩:=N1.six
 simp only [Nat.zero_add] at c1 c2 c3 c4 c5
 clear N1
 have hid:∀ r,decide (F.n=0/\F.rs.length=0)=r->Calls Tryz.prog 134 #[.agg #[.int .i64 F.k,.int .i64 F.n,.int .i64 F.mn,.int .i64 F.mx,.slice F.rq F.rs.length F.rc,.slice F.kq F.kl F.kc],.bool false,.bool true,.bool false,.bool true] w fun e w'=>e=.returned (.bool r)/\Below w.heap.size w w':=by
  intro r hr0
  by_cases hn:F.n=0
  case neg=>
   have ehn:(F.n==0)=false:=beq_eq_false_iff_ne.2 (by omega)
   have hB:r=false:=by rw [<- hr0];exact decide_eq_false (by omega)
   clear hn
   subst hB
   clear hr0
   go_enter Tryz.func134,Tryz.ntmps134
   go_wp2
   go_ret
   exact⟨rfl,B1.out⟩
  have ehn:(F.n==0)=true:=beq_iff_eq.2 (by omega)
  have Hhn:=aB hn
  clear hn
  by_cases hr:F.rs.length=0
  case neg=>
   have ehr:((F.rs.length:Int)==0)=false:=beq_eq_false_iff_ne.2 (by omega)
   have hB:r=false:=by rw [<- hr0];exact decide_eq_false (by omega)
   clear hr
   subst hB
   clear hr0
   go_enter Tryz.func134,Tryz.ntmps134
   go_wp2
   go_ret
   exact⟨rfl,B1.out⟩
  have ehr:((F.rs.length:Int)==0)=true:=beq_iff_eq.2 (by omega)
  have Hhr:=aB hr
  clear hr
  have hB:r=true:=by rw [<- hr0];exact decide_eq_true (by have:=Hhn.out;have:=Hhr.out;omega)
  subst hB
  clear hr0
  go_enter Tryz.func134,Tryz.ntmps134
  go_wp2
  go_ret
  exact⟨rfl,B1.out⟩
 exact hid _ rfl
theorem aA7(p:Way)(t:Tr)(o:Nat)(w:World):Calls Tryz.prog 133 #[.agg #[.int .i64 t.f.k,.int .i64 t.f.n,.int .i64 t.f.mn,.int .i64 t.f.mx,.slice t.f.rq t.f.rs.length t.f.rc,.slice t.f.kq t.f.kl t.f.kc,.int .i64 ((p.length:Int)+1),.int .i64 (arP p),.bool (fiP p),.bool (laP p),.bool (brP p),.int .i64 (o:Int)]] w fun e w'=>e=.returned (.bool (gS p t.f.k))/\Below w.heap.size w w':=by
 have N1:(w.alloc (.cells #[.int .i64 t.f.k,.int .i64 t.f.n,.int .i64 t.f.mn,.int .i64 t.f.mx,.slice t.f.rq t.f.rs.length t.f.rc,.slice t.f.kq t.f.kl t.f.kc,.int .i64 ((p.length:Int)+1),.int .i64 (arP p),.bool (fiP p),.bool (laP p),.bool (brP p),.int .i64 (o:Int)] 94)).heap[w.heap.size]?=some (.cells #[.int .i64 t.f.k,.int .i64 t.f.n,.int .i64 t.f.mn,.int .i64 t.f.mx,.slice t.f.rq t.f.rs.length t.f.rc,.slice t.f.kq t.f.kl t.f.kc,.int .i64 ((p.length:Int)+1),.int .i64 (arP p),.bool (fiP p),.bool (laP p),.bool (brP p),.int .i64 (o:Int)] 94 (0,0)):=aF w _
 have B1:Hid (Below w.heap.size w (w.alloc (.cells #[.int .i64 t.f.k,.int .i64 t.f.n,.int .i64 t.f.mn,.int .i64 t.f.mx,.slice t.f.rq t.f.rs.length t.f.rc,.slice t.f.kq t.f.kl t.f.kc,.int .i64 ((p.length:Int)+1),.int .i64 (arP p),.bool (fiP p),.bool (laP p),.bool (brP p),.int .i64 (o:Int)] 94))):=bz9
 have hid:∀ (k ar:Int) (fi la br:Bool) (r:Bool),(if ar=5 then (if k=3 then br && fi else if k=4 then br && la else aZ k) else if ar=9 then aZ k else if ar=6 then k != 6 else true)=r->(w.alloc (.cells #[.int .i64 t.f.k,.int .i64 t.f.n,.int .i64 t.f.mn,.int .i64 t.f.mx,.slice t.f.rq t.f.rs.length t.f.rc,.slice t.f.kq t.f.kl t.f.kc,.int .i64 ((p.length:Int)+1),.int .i64 (arP p),.bool (fiP p),.bool (laP p),.bool (brP p),.int .i64 (o:Int)] 94)).cell? ⟨w.heap.size,0,none⟩=some (.int .i64 k)->(w.alloc (.cells #[.int .i64 t.f.k,.int .i64 t.f.n,.int .i64 t.f.mn,.int .i64 t.f.mx,.slice t.f.rq t.f.rs.length t.f.rc,.slice t.f.kq t.f.kl t.f.kc,.int .i64 ((p.length:Int)+1),.int .i64 (arP p),.bool (fiP p),.bool (laP p),.bool (brP p),.int .i64 (o:Int)] 94)).cell? ⟨w.heap.size,7,none⟩=some (.int .i64 ar)->(w.alloc (.cells #[.int .i64 t.f.k,.int .i64 t.f.n,.int .i64 t.f.mn,.int .i64 t.f.mx,.slice t.f.rq t.f.rs.length t.f.rc,.slice t.f.kq t.f.kl t.f.kc,.int .i64 ((p.length:Int)+1),.int .i64 (arP p),.bool (fiP p),.bool (laP p),.bool (brP p),.int .i64 (o:Int)] 94)).cell? ⟨w.heap.size,8,none⟩=some (.bool fi)->(w.alloc (.cells #[.int .i64 t.f.k,.int .i64 t.f.n,.int .i64 t.f.mn,.int .i64 t.f.mx,.slice t.f.rq t.f.rs.length t.f.rc,.slice t.f.kq t.f.kl t.f.kc,.int .i64 ((p.length:Int)+1),.int .i64 (arP p),.bool (fiP p),.bool (laP p),.bool (brP p),.int .i64 (o:Int)] 94)).cell? ⟨w.heap.size,9,none⟩=some (.bool la)->(w.alloc (.cells #[.int .i64 t.f.k,.int .i64 t.f.n,.int .i64 t.f.mn,.int .i64 t.f.mx,.slice t.f.rq t.f.rs.length t.f.rc,.slice t.f.kq t.f.kl t.f.kc,.int .i64 ((p.length:Int)+1),.int .i64 (arP p),.bool (fiP p),.bool (laP p),.bool (brP p),.int .i64 (o:Int)] 94)).cell? ⟨w.heap.size,10,none⟩=some (.bool br)->Calls Tryz.prog 133 #[.agg #[.int .i64 t.f.k,.int .i64 t.f.n,.int .i64 t.f.mn,.int .i64 t.f.mx,.slice t.f.rq t.f.rs.length t.f.rc,.slice t.f.kq t.f.kl t.f.kc,.int .i64 ((p.length:Int)+1),.int .i64 (arP p),.bool (fiP p),.bool (laP p),.bool (brP p),.int .i64 (o:Int)]] w fun e w'=>e=.returned (.bool r)/\Below w.heap.size w w':=by
  intro k ar fi la br r hr x0 x7 x8 x9 x10
  have TH:=aB (fun W=>aH9 k W)
  obtain⟨th,hth⟩:∃ th,aZ k=th:=⟨_,rfl⟩
  rw [hth] at TH hr
  clear N1 hth
  by_cases a5:ar=5
  ·by_cases k3:k=3
   ·have e5:(ar==5)=true:=by simpa using a5
    have e3:(k==3)=true:=by simpa using k3
    rw [if_pos a5,if_pos k3] at hr
    clear a5 k3
    cases br <;> cases fi
    all_goals (subst hr;go_enter Tryz.func133,Tryz.ntmps133;go_wp2_with (go_at_call 157;(with_reducible refine(TH.out _).mono ?_);rintro e w5 ⟨rfl,h5⟩;subst w5);go_ret;exact⟨rfl,B1.out⟩)
   by_cases k4:k=4
   ·have e5:(ar==5)=true:=by simpa using a5
    have e3:(k==3)=false:=by simpa using k3
    have e4:(k==4)=true:=by simpa using k4
    rw [if_pos a5,if_neg k3,if_pos k4] at hr
    clear a5 k3 k4
    cases br <;> cases la
    all_goals (subst hr;go_enter Tryz.func133,Tryz.ntmps133;go_wp2_with (go_at_call 157;(with_reducible refine(TH.out _).mono ?_);rintro e w5 ⟨rfl,h5⟩;subst w5);go_ret;exact⟨rfl,B1.out⟩)
   have e5:(ar==5)=true:=by simpa using a5
   have e3:(k==3)=false:=by simpa using k3
   have e4:(k==4)=false:=by simpa using k4
   rw [if_pos a5,if_neg k3,if_neg k4] at hr
   clear a5 k3 k4
   subst hr
   go_enter Tryz.func133,Tryz.ntmps133
   go_wp2_with (go_at_call 157;(with_reducible refine(TH.out _).mono ?_);rintro e w5 ⟨rfl,h5⟩;subst w5)
   go_ret
   exact⟨rfl,B1.out⟩
  have e5:(ar==5)=false:=by simpa using a5
  rw [if_neg a5] at hr
  by_cases a9:ar=9
  ·have e9:(ar==9)=true:=by simpa using a9
   rw [if_pos a9] at hr
   clear a5 a9
   subst hr
   go_enter Tryz.func133,Tryz.ntmps133
   go_wp2_with (go_at_call 157;(with_reducible refine(TH.out _).mono ?_);rintro e w5 ⟨rfl,h5⟩;subst w5)
   go_ret
   exact⟨rfl,B1.out⟩
  have e9:(ar==9)=false:=by simpa using a9
  rw [if_neg a9] at hr
  by_cases a6:ar=6
  ·have e6:(ar==6)=true:=by simpa using a6
   rw [if_pos a6] at hr
   clear a5 a9 a6
   subst hr
   go_enter Tryz.func133,Tryz.ntmps133
   go_wp2_with (go_at_call 157;(with_reducible refine(TH.out _).mono ?_);rintro e w5 ⟨rfl,h5⟩;subst w5)
   go_ret
   exact⟨rfl,B1.out⟩
  have e6:(ar==6)=false:=by simpa using a6
  rw [if_neg a6] at hr
  clear a5 a9 a6
  subst hr
  go_enter Tryz.func133,Tryz.ntmps133
  go_wp2_with (go_at_call 157;(with_reducible refine(TH.out _).mono ?_);rintro e w5 ⟨rfl,h5⟩;subst w5)
  go_ret
  exact⟨rfl,B1.out⟩
 exact hid t.f.k (arP p) (fiP p) (laP p) (brP p) _ rfl (aA N1 (i:=0) rfl) (aA N1 (i:=7) rfl) (aA N1 (i:=8) rfl) (aA N1 (i:=9) rfl) (aA N1 (i:=10) rfl)
theorem aA4{c f:Bool}{L C:List (Int × Int)}(hC:IsC C (iH L)):kN c f L ↔ (IsC L (fun x=>In L x/\aN c x)/\(f=true->L=C)):=by
 constructor
 ·rintro ⟨h1,h2⟩
  refine⟨h1,fun hf=>?_⟩
  have h3:IsC L (iH L):=⟨h1.cls,h1.fit,h2 hf⟩
  exact h3.one hC (fun _=>Iff.rfl)
 ·rintro ⟨h1,h2⟩
  refine⟨h1,fun hf x=>?_⟩
  have e:=h2 hf
  rw [<- e] at hC
  exact hC.mem x
theorem zW{c f:Bool}{t:Tr}{k:Int}(hk:t.f.k=k):fV c f t ↔ (if k=1\/k=3\/k=4 then t.f.n=0/\t.f.mn=0/\t.f.mx=0/\t.f.rs.length=0/\t.ks.length=0
 else if k=2 then kN c f t.f.rs/\t.f.n=0/\t.f.mn=0/\t.f.mx=0/\t.ks.length=0
 else if k=5\/k=6 then 1 < t.ks.length/\t.f.n=0/\t.f.mn=0/\t.f.mx=0/\t.f.rs.length=0
 else if k=7 then t.ks.length=1/\t.f.mn=0/\t.f.mx=0/\t.f.rs.length=0
 else if k=8 then (1<=t.f.n/\t.f.n<=9)/\t.f.mn=0/\t.f.mx=0/\t.f.rs.length=0/\t.ks.length=0
 else if k=9 then dL t.f.mn t.f.mx=true/\t.ks.length=1/\t.f.n=0/\t.f.rs.length=0
 else False):=by
 unfold fV
 rw [hk]
def FormedP(c f:Bool)(p:Way)(t:Tr)(w:World)(e:Ending)(w':World):Prop:=∃ b:Bool,e=.returned (.bool b)/\(b=true ↔ bF c f p t)/\Below w.heap.size w w'
theorem FormedP.mk{c f:Bool}{p:Way}{t:Tr}{w w':World}{e:Ending}(b:Bool)(h1:e=.returned (.bool b))(h2:b=true ↔ bF c f p t)(h3:Below w.heap.size w w'):FormedP c f p t w e w':=⟨b,h1,h2,h3⟩
theorem aB2(p:Way)(t:Tr)(o:Nat)(c f:Bool){w:World}(hn:NB w t)(hrl:t.f.rs.length<=1048580) :
  Calls Tryz.prog 93 #[.agg #[.int .i64 t.f.k,.int .i64 t.f.n,.int .i64 t.f.mn,.int .i64 t.f.mx,.slice t.f.rq t.f.rs.length t.f.rc,.slice t.f.kq t.f.kl t.f.kc,.int .i64 ((p.length:Int)+1),.int .i64 (arP p),.bool (fiP p),.bool (laP p),.bool (brP p),.int .i64 (o:Int)],.agg #[.bool c,.bool f]] w fun e w'=>FormedP c f p t w e w':=by
 have HNA:=aB hn
 have hkl:=hn.kl
 have HKL:=aB hkl
 obtain⟨qk,ck,ek,hkm,-,-⟩:=hn.k.slice
 have hkm':t.f.kl<=9223372036854775807:=by rw [hkl];exact hkm
 have HF:=aB hn.fit
 have B0:Hid (Below w.heap.size w ((w.alloc (.cells #[.int .i64 t.f.k,.int .i64 t.f.n,.int .i64 t.f.mn,.int .i64 t.f.mx,.slice t.f.rq t.f.rs.length t.f.rc,.slice t.f.kq t.f.kl t.f.kc,.int .i64 ((p.length:Int)+1),.int .i64 (arP p),.bool (fiP p),.bool (laP p),.bool (brP p),.int .i64 (o:Int)] 94)).alloc (.cells #[.bool c,.bool f] 27))):=(bz9).alloc (by simp) _
 have P0:Hid (((w.alloc (.cells #[.int .i64 t.f.k,.int .i64 t.f.n,.int .i64 t.f.mn,.int .i64 t.f.mx,.slice t.f.rq t.f.rs.length t.f.rc,.slice t.f.kq t.f.kl t.f.kc,.int .i64 ((p.length:Int)+1),.int .i64 (arP p),.bool (fiP p),.bool (laP p),.bool (brP p),.int .i64 (o:Int)] 94)).alloc (.cells #[.bool c,.bool f] 27)).heap[w.heap.size]?=some (.cells #[.int .i64 t.f.k,.int .i64 t.f.n,.int .i64 t.f.mn,.int .i64 t.f.mx,.slice t.f.rq t.f.rs.length t.f.rc,.slice t.f.kq t.f.kl t.f.kc,.int .i64 ((p.length:Int)+1),.int .i64 (arP p),.bool (fiP p),.bool (laP p),.bool (brP p),.int .i64 (o:Int)] 94 (0,0))):=(Below.heap_alloc _ _ _ (by simp)).trans (aF w _)
 have M0:Hid (((w.alloc (.cells #[.int .i64 t.f.k,.int .i64 t.f.n,.int .i64 t.f.mn,.int .i64 t.f.mx,.slice t.f.rq t.f.rs.length t.f.rc,.slice t.f.kq t.f.kl t.f.kc,.int .i64 ((p.length:Int)+1),.int .i64 (arP p),.bool (fiP p),.bool (laP p),.bool (brP p),.int .i64 (o:Int)] 94)).alloc (.cells #[.bool c,.bool f] 27)).heap[w.heap.size+1]?=some (.cells #[.bool c,.bool f] 27 (0,0))):=(by
  have:=aF (w.alloc (.cells #[.int .i64 t.f.k,.int .i64 t.f.n,.int .i64 t.f.mn,.int .i64 t.f.mx,.slice t.f.rq t.f.rs.length t.f.rc,.slice t.f.kq t.f.kl t.f.kc,.int .i64 ((p.length:Int)+1),.int .i64 (arP p),.bool (fiP p),.bool (laP p),.bool (brP p),.int .i64 (o:Int)] 94)) (.cells #[.bool c,.bool f] 27)
  rwa [World.size_alloc] at this)
 clear hn hkl ek hkm
 go_enter Tryz.func93,Tryz.ntmps93
 go_upto_region 1 with fail
 generalize ((w.alloc (.cells #[.int .i64 t.f.k,.int .i64 t.f.n,.int .i64 t.f.mn,.int .i64 t.f.mx,.slice t.f.rq t.f.rs.length t.f.rc,.slice t.f.kq t.f.kl t.f.kc,.int .i64 ((p.length:Int)+1),.int .i64 (arP p),.bool (fiP p),.bool (laP p),.bool (brP p),.int .i64 (o:Int)] 94)).alloc (.cells #[.bool c,.bool f] 27))=W0 at B0 P0 M0 ⊢
 generalize w.heap.size+1=bm at M0 ⊢
 have p0:W0.cell? ⟨w.heap.size,0,none⟩=some (.int .i64 t.f.k):=aA P0.out (i:=0) rfl
 have p1:W0.cell? ⟨w.heap.size,1,none⟩=some (.int .i64 t.f.n):=aA P0.out (i:=1) rfl
 have p2:W0.cell? ⟨w.heap.size,2,none⟩=some (.int .i64 t.f.mn):=aA P0.out (i:=2) rfl
 have p3:W0.cell? ⟨w.heap.size,3,none⟩=some (.int .i64 t.f.mx):=aA P0.out (i:=3) rfl
 have p4:W0.cell? ⟨w.heap.size,4,none⟩=some (.slice t.f.rq t.f.rs.length t.f.rc):=aA P0.out (i:=4) rfl
 have p5:W0.cell? ⟨w.heap.size,5,none⟩=some (.slice t.f.kq t.f.kl t.f.kc):=aA P0.out (i:=5) rfl
 have p6:W0.cell? ⟨w.heap.size,6,none⟩=some (.int .i64 ((p.length:Int)+1)):=aA P0.out (i:=6) rfl
 have p7:W0.cell? ⟨w.heap.size,7,none⟩=some (.int .i64 (arP p)):=aA P0.out (i:=7) rfl
 have p8:W0.cell? ⟨w.heap.size,8,none⟩=some (.bool (fiP p)):=aA P0.out (i:=8) rfl
 have p9:W0.cell? ⟨w.heap.size,9,none⟩=some (.bool (laP p)):=aA P0.out (i:=9) rfl
 have p10:W0.cell? ⟨w.heap.size,10,none⟩=some (.bool (brP p)):=aA P0.out (i:=10) rfl
 have p11:W0.cell? ⟨w.heap.size,11,none⟩=some (.int .i64 (o:Int)):=aA P0.out (i:=11) rfl
 go_upto_region 2 with fail
 have K1:Below W0.heap.size W0 (W0.alloc (.cells #[.int .i64 t.f.k,.int .i64 t.f.n,.int .i64 t.f.mn,.int .i64 t.f.mx,.slice t.f.rq t.f.rs.length t.f.rc,.slice t.f.kq t.f.kl t.f.kc] 25)):=bz9
 have N1:=aB (aF W0 (.cells #[.int .i64 t.f.k,.int .i64 t.f.n,.int .i64 t.f.mn,.int .i64 t.f.mx,.slice t.f.rq t.f.rs.length t.f.rc,.slice t.f.kq t.f.kl t.f.kc] 25))
 have P1:=aB ((K1.block _ (aC P0.out)).trans P0.out)
 have M1:=aB ((K1.block _ (aC M0.out)).trans M0.out)
 have B1:=aB (aG B0.out K1 lz9)
 clear K1 B0 P0 M0 p0 p1 p2 p3 p4 p5 p6 p7 p8 p9 p10 p11
 generalize (W0.alloc (.cells #[.int .i64 t.f.k,.int .i64 t.f.n,.int .i64 t.f.mn,.int .i64 t.f.mx,.slice t.f.rq t.f.rs.length t.f.rc,.slice t.f.kq t.f.kl t.f.kc] 25))=W1 at N1 P1 M1 B1 ⊢
 generalize W0.heap.size=bn at N1 ⊢
 have p0:W1.cell? ⟨w.heap.size,0,none⟩=some (.int .i64 t.f.k):=aA P1.out (i:=0) rfl
 have p1:W1.cell? ⟨w.heap.size,1,none⟩=some (.int .i64 t.f.n):=aA P1.out (i:=1) rfl
 have p2:W1.cell? ⟨w.heap.size,2,none⟩=some (.int .i64 t.f.mn):=aA P1.out (i:=2) rfl
 have p3:W1.cell? ⟨w.heap.size,3,none⟩=some (.int .i64 t.f.mx):=aA P1.out (i:=3) rfl
 have p4:W1.cell? ⟨w.heap.size,4,none⟩=some (.slice t.f.rq t.f.rs.length t.f.rc):=aA P1.out (i:=4) rfl
 have p5:W1.cell? ⟨w.heap.size,5,none⟩=some (.slice t.f.kq t.f.kl t.f.kc):=aA P1.out (i:=5) rfl
 have p6:W1.cell? ⟨w.heap.size,6,none⟩=some (.int .i64 ((p.length:Int)+1)):=aA P1.out (i:=6) rfl
 have p7:W1.cell? ⟨w.heap.size,7,none⟩=some (.int .i64 (arP p)):=aA P1.out (i:=7) rfl
 have p8:W1.cell? ⟨w.heap.size,8,none⟩=some (.bool (fiP p)):=aA P1.out (i:=8) rfl
 have p9:W1.cell? ⟨w.heap.size,9,none⟩=some (.bool (laP p)):=aA P1.out (i:=9) rfl
 have p10:W1.cell? ⟨w.heap.size,10,none⟩=some (.bool (brP p)):=aA P1.out (i:=10) rfl
 have p11:W1.cell? ⟨w.heap.size,11,none⟩=some (.int .i64 (o:Int)):=aA P1.out (i:=11) rfl
 have ST:=aB (aA7 p t o W1)
 obtain⟨s,hs⟩:∃ s,gS p t.f.k=s:=⟨_,rfl⟩
 rw [hs] at ST
 have HS:=aB hs
 clear hs
 go_upto_region 3 with (go_at_call 133;(with_reducible refine(ST.out).mono ?_);rintro e W2 ⟨rfl,h2⟩;have B2:=aB (aG B1.out h2 lz9);have N2:=aB ((h2.block _ (aC N1.out)).trans N1.out);have M2:=aB ((h2.block _ (aC M1.out)).trans M1.out);clear h2)
 clear p0 p1 p2 p3 p4 p5 p6 p7 p8 p9 p10 p11 N1 P1 M1 B1 ST
 cases s with
 | false=>
  go_wp2
  go_ret
  exact FormedP.mk false rfl (⟨fun z=>(by cases z),fun z=>by have:=z.1;rw [HS.out] at this;cases this⟩) B2.out
 | true=>
  have FT:Hid (bF c f p t ↔ fV c f t):=⟨fun z=>z.2,fun z=>⟨HS.out,z⟩⟩
  obtain⟨n0,n1,n2,n3,n4,n5⟩:=(show BoxN W2 bn t.f from N2.out).six
  simp only [Nat.zero_add] at n1 n2 n3 n4 n5
  have m0:W2.cell? ⟨bm,0,none⟩=some (.bool c):=aA M2.out (i:=0) rfl
  have m1:W2.cell? ⟨bm,1,none⟩=some (.bool f):=aA M2.out (i:=1) rfl
  obtain⟨k,hk⟩:∃ k,t.f.k=k:=⟨_,rfl⟩
  have TK:=aB (zW (c:=c) (f:=f) hk)
  have HKK:=aB hk
  obtain⟨ln,hln⟩:∃ ln,t.f.kl=ln:=⟨_,rfl⟩
  have HLN:=aB hln
  clear hk hln
  by_cases h1:k=1\/k=3\/k=4
  ·have BR:=aB (fun W=>vM t.f W)
   obtain⟨br,hbr⟩:∃ br,decide (t.f.n=0/\t.f.mn=0/\t.f.mx=0/\t.f.rs.length=0/\t.f.kl=0)=br:=⟨_,rfl⟩
   rw [hbr] at BR
   have HBR:=aB hbr
   clear hbr
   have HI:=aB (show br=true ↔ bF c f p t by
    rw [<- HBR.out,FT.out,TK.out,if_pos h1,decide_eq_true_eq,HKL.out])
   rcases h1 with h1 | h1 | h1
   ·have q1:(t.f.k==1)=true:=beq_iff_eq.2 (by rw [HKK.out];omega)
    clear h1
    go_wp2_with (go_at_call 134;(with_reducible refine(BR.out _).mono ?_);rintro e W8 ⟨rfl,h8⟩;have B8:=aB (aG B2.out h8 lz9);clear h8)
    go_ret
    exact FormedP.mk br rfl (HI.out) B8.out
   ·have q1:(t.f.k==1)=false:=beq_eq_false_iff_ne.2 (by rw [HKK.out];omega)
    have q3:(t.f.k==3)=true:=beq_iff_eq.2 (by rw [HKK.out];omega)
    clear h1
    go_wp2_with (go_at_call 134;(with_reducible refine(BR.out _).mono ?_);rintro e W8 ⟨rfl,h8⟩;have B8:=aB (aG B2.out h8 lz9);clear h8)
    go_ret
    exact FormedP.mk br rfl (HI.out) B8.out
   ·have q1:(t.f.k==1)=false:=beq_eq_false_iff_ne.2 (by rw [HKK.out];omega)
    have q3:(t.f.k==3)=false:=beq_eq_false_iff_ne.2 (by rw [HKK.out];omega)
    have q4:(t.f.k==4)=true:=beq_iff_eq.2 (by rw [HKK.out];omega)
    clear h1
    go_wp2_with (go_at_call 134;(with_reducible refine(BR.out _).mono ?_);rintro e W8 ⟨rfl,h8⟩;have B8:=aB (aG B2.out h8 lz9);clear h8)
    go_ret
    exact FormedP.mk br rfl (HI.out) B8.out
  by_cases h2:k=2
  ·have BR:=aB (fun W=>vJ t.f W)
   obtain⟨br,hbr⟩:∃ br,decide (t.f.n=0/\t.f.mn=0/\t.f.mx=0/\t.f.kl=0)=br:=⟨_,rfl⟩
   rw [hbr] at BR
   have HBR:=aB hbr
   clear hbr
   have q1:(t.f.k==1)=false:=beq_eq_false_iff_ne.2 (by rw [HKK.out];omega)
   have q3:(t.f.k==3)=false:=beq_eq_false_iff_ne.2 (by rw [HKK.out];omega)
   have q4:(t.f.k==4)=false:=beq_eq_false_iff_ne.2 (by rw [HKK.out];omega)
   have q2:(t.f.k==2)=true:=beq_iff_eq.2 (by rw [HKK.out];omega)
   have RC:=aB (qI (m:=c) (HNA.out.ck (CK.of_below B2.out)).r HF.out hrl)
   go_upto_region 12 with (go_at_call 47;(with_reducible refine(RC.out).mono ?_);rintro e W3 ⟨b3,rfl,hb3,h3⟩;have I3:=aB hb3;have B3:=aB (aG B2.out h3 lz9);have N3:=aB ((h3.block _ (aC N2.out)).trans N2.out);have M3:=aB ((h3.block _ (aC M2.out)).trans M2.out);clear hb3 h3)
   clear n0 n1 n2 n3 n4 n5 m0 m1
   have n4:W3.cell? ⟨bn,4,none⟩=some (.slice t.f.rq t.f.rs.length t.f.rc):=(show BoxN W3 bn t.f from N3.out).six.2.2.2.2.1
   have FC:=aB (aB3 (HNA.out.ck (CK.of_below B3.out)).r HF.out hrl)
   go_upto_region 13 with (go_at_call 135;(with_reducible refine(FC.out).mono ?_);rintro e W4 ⟨v4,C,rfl,h41,h42,h43,h44⟩;obtain⟨q4,k4,rfl⟩:=h41.shape;have X4:=aB h41;have I4:=aB h42;have B4:=aB (aG B3.out h44 lz9);have N4:=aB ((h44.block _ (aC N3.out)).trans N3.out);have M4:=aB ((h44.block _ (aC M3.out)).trans M3.out);clear h41 h42 h43 h44)
   clear n4
   have n4:W4.cell? ⟨bn,4,none⟩=some (.slice t.f.rq t.f.rs.length t.f.rc):=(show BoxN W4 bn t.f from N4.out).six.2.2.2.2.1
   have AK:=aB (lR (HNA.out.ck (CK.of_below B4.out)).r X4.out.arg)
   obtain⟨aa,haa⟩:∃ aa,decide (t.f.rs=C)=aa:=⟨_,rfl⟩
   rw [haa] at AK
   have HAA:=aB haa
   clear haa
   go_upto_region 14 with (go_at_call 22;(with_reducible refine(AK.out).mono ?_);rintro e W5 ⟨rfl,h5⟩;have B5:=aB (aG B4.out h5 lz9);have N5:=aB ((h5.block _ (aC N4.out)).trans N4.out);have M5:=aB ((h5.block _ (aC M4.out)).trans M4.out);clear h5)
   clear n4
   obtain⟨n0,n1,n2,n3,n4,n5⟩:=(show BoxN W5 bn t.f from N5.out).six
   simp only [Nat.zero_add] at n1 n2 n3 n4 n5
   have m1:W5.cell? ⟨bm,1,none⟩=some (.bool f):=aA M5.out (i:=1) rfl
   have HI:=aB (show ((b3=true/\(f=true->aa=true))/\br=true) ↔ bF c f p t by
    rw [<- HBR.out,FT.out,TK.out,if_neg h1,if_pos h2,decide_eq_true_eq,HKL.out,aA4 I4.out,I3.out,<- HAA.out,decide_eq_true_eq])
   clear h1 h2 RC FC AK
   cases b3 with
   | false=>
    have HI2:=aB (show false=true ↔ bF c f p t from ⟨fun z=>(by cases z),fun z=>(HI.out.2 z).1.1⟩)
    go_wp2
    go_ret
    exact FormedP.mk false rfl (HI2.out) B5.out
   | true=>
    cases f with
    | false=>
     have HI2:=aB (show br=true ↔ bF c false p t from ⟨fun z=>HI.out.1 ⟨⟨rfl,fun q=>(by cases q)⟩,z⟩,fun z=>(HI.out.2 z).2⟩)
     go_wp2_with (go_at_call 134;(with_reducible refine(BR.out _).mono ?_);rintro e W8 ⟨rfl,h8⟩;have B8:=aB (aG B5.out h8 lz9);clear h8)
     go_ret
     exact FormedP.mk br rfl (HI2.out) B8.out
    | true=>
     cases aa with
     | false=>
      have HI2:=aB (show false=true ↔ bF c true p t from ⟨fun z=>(by cases z),fun z=>(HI.out.2 z).1.2 rfl⟩)
      go_wp2
      go_ret
      exact FormedP.mk false rfl (HI2.out) B5.out
     | true=>
      have HI2:=aB (show br=true ↔ bF c true p t from ⟨fun z=>HI.out.1 ⟨⟨rfl,fun _=>rfl⟩,z⟩,fun z=>(HI.out.2 z).2⟩)
      go_wp2_with (go_at_call 134;(with_reducible refine(BR.out _).mono ?_);rintro e W8 ⟨rfl,h8⟩;have B8:=aB (aG B5.out h8 lz9);clear h8)
      go_ret
      exact FormedP.mk br rfl (HI2.out) B8.out
  by_cases h56:k=5\/k=6
  ·have BR:=aB (fun W=>vK t.f W)
   obtain⟨br,hbr⟩:∃ br,decide (t.f.n=0/\t.f.mn=0/\t.f.mx=0/\t.f.rs.length=0)=br:=⟨_,rfl⟩
   rw [hbr] at BR
   have HBR:=aB hbr
   clear hbr
   have HI:=aB (show (1 < ln/\br=true) ↔ bF c f p t by
    rw [<- HBR.out,FT.out,TK.out,if_neg h1,if_neg h2,if_pos h56,decide_eq_true_eq,<- HLN.out,HKL.out])
   by_cases hl:1 < ln
   ·have el:(1:Int) < (t.f.kl:Int):=by rw [HLN.out];omega
    have HI2:=aB (show br=true ↔ bF c f p t from ⟨fun z=>HI.out.1 ⟨hl,z⟩,fun z=>(HI.out.2 z).2⟩)
    clear hl
    rcases h56 with h5 | h5
    ·have q1:(t.f.k==1)=false:=beq_eq_false_iff_ne.2 (by rw [HKK.out];omega)
     have q3:(t.f.k==3)=false:=beq_eq_false_iff_ne.2 (by rw [HKK.out];omega)
     have q4:(t.f.k==4)=false:=beq_eq_false_iff_ne.2 (by rw [HKK.out];omega)
     have q2:(t.f.k==2)=false:=beq_eq_false_iff_ne.2 (by rw [HKK.out];omega)
     have q5:(t.f.k==5)=true:=beq_iff_eq.2 (by rw [HKK.out];omega)
     clear h5 h1 h2
     go_wp2_with (go_at_call 134;(with_reducible refine(BR.out _).mono ?_);rintro e W8 ⟨rfl,h8⟩;have B8:=aB (aG B2.out h8 lz9);clear h8)
     go_ret
     exact FormedP.mk br rfl (HI2.out) B8.out
    ·have q1:(t.f.k==1)=false:=beq_eq_false_iff_ne.2 (by rw [HKK.out];omega)
     have q3:(t.f.k==3)=false:=beq_eq_false_iff_ne.2 (by rw [HKK.out];omega)
     have q4:(t.f.k==4)=false:=beq_eq_false_iff_ne.2 (by rw [HKK.out];omega)
     have q2:(t.f.k==2)=false:=beq_eq_false_iff_ne.2 (by rw [HKK.out];omega)
     have q5:(t.f.k==5)=false:=beq_eq_false_iff_ne.2 (by rw [HKK.out];omega)
     have q6:(t.f.k==6)=true:=beq_iff_eq.2 (by rw [HKK.out];omega)
     clear h5 h1 h2
     go_wp2_with (go_at_call 134;(with_reducible refine(BR.out _).mono ?_);rintro e W8 ⟨rfl,h8⟩;have B8:=aB (aG B2.out h8 lz9);clear h8)
     go_ret
     exact FormedP.mk br rfl (HI2.out) B8.out
   ·have el:¬ (1:Int) < (t.f.kl:Int):=by rw [HLN.out];omega
    have HI2:=aB (show false=true ↔ bF c f p t from ⟨fun z=>(by cases z),fun z=>absurd (HI.out.2 z).1 hl⟩)
    clear hl
    rcases h56 with h5 | h5
    ·have q1:(t.f.k==1)=false:=beq_eq_false_iff_ne.2 (by rw [HKK.out];omega)
     have q3:(t.f.k==3)=false:=beq_eq_false_iff_ne.2 (by rw [HKK.out];omega)
     have q4:(t.f.k==4)=false:=beq_eq_false_iff_ne.2 (by rw [HKK.out];omega)
     have q2:(t.f.k==2)=false:=beq_eq_false_iff_ne.2 (by rw [HKK.out];omega)
     have q5:(t.f.k==5)=true:=beq_iff_eq.2 (by rw [HKK.out];omega)
     clear h5 h1 h2
     go_wp2
     go_ret
     exact FormedP.mk false rfl (HI2.out) B2.out
    ·have q1:(t.f.k==1)=false:=beq_eq_false_iff_ne.2 (by rw [HKK.out];omega)
     have q3:(t.f.k==3)=false:=beq_eq_false_iff_ne.2 (by rw [HKK.out];omega)
     have q4:(t.f.k==4)=false:=beq_eq_false_iff_ne.2 (by rw [HKK.out];omega)
     have q2:(t.f.k==2)=false:=beq_eq_false_iff_ne.2 (by rw [HKK.out];omega)
     have q5:(t.f.k==5)=false:=beq_eq_false_iff_ne.2 (by rw [HKK.out];omega)
     have q6:(t.f.k==6)=true:=beq_iff_eq.2 (by rw [HKK.out];omega)
     clear h5 h1 h2
     go_wp2
     go_ret
     exact FormedP.mk false rfl (HI2.out) B2.out
  by_cases h7:k=7
  ·have BR:=aB (fun W=>vG t.f W)
   obtain⟨br,hbr⟩:∃ br,decide (t.f.mn=0/\t.f.mx=0/\t.f.rs.length=0)=br:=⟨_,rfl⟩
   rw [hbr] at BR
   have HBR:=aB hbr
   clear hbr
   have HI:=aB (show (ln=1/\br=true) ↔ bF c f p t by
    rw [<- HBR.out,FT.out,TK.out,if_neg h1,if_neg h2,if_neg h56,if_pos h7,decide_eq_true_eq,<- HLN.out,HKL.out])
   have q1:(t.f.k==1)=false:=beq_eq_false_iff_ne.2 (by rw [HKK.out];omega)
   have q3:(t.f.k==3)=false:=beq_eq_false_iff_ne.2 (by rw [HKK.out];omega)
   have q4:(t.f.k==4)=false:=beq_eq_false_iff_ne.2 (by rw [HKK.out];omega)
   have q2:(t.f.k==2)=false:=beq_eq_false_iff_ne.2 (by rw [HKK.out];omega)
   have q5:(t.f.k==5)=false:=beq_eq_false_iff_ne.2 (by rw [HKK.out];omega)
   have q6:(t.f.k==6)=false:=beq_eq_false_iff_ne.2 (by rw [HKK.out];omega)
   have q7:(t.f.k==7)=true:=beq_iff_eq.2 (by rw [HKK.out];omega)
   clear h1 h2 h56 h7
   by_cases hl:ln=1
   ·have el:((t.f.kl:Int)==1)=true:=beq_iff_eq.2 (by rw [HLN.out];omega)
    have HI2:=aB (show br=true ↔ bF c f p t from ⟨fun z=>HI.out.1 ⟨hl,z⟩,fun z=>(HI.out.2 z).2⟩)
    clear hl
    go_wp2_with (go_at_call 134;(with_reducible refine(BR.out _).mono ?_);rintro e W8 ⟨rfl,h8⟩;have B8:=aB (aG B2.out h8 lz9);clear h8)
    go_ret
    exact FormedP.mk br rfl (HI2.out) B8.out
   ·have el:((t.f.kl:Int)==1)=false:=beq_eq_false_iff_ne.2 (by rw [HLN.out];omega)
    have HI2:=aB (show false=true ↔ bF c f p t from ⟨fun z=>(by cases z),fun z=>absurd (HI.out.2 z).1 hl⟩)
    clear hl
    go_wp2
    go_ret
    exact FormedP.mk false rfl (HI2.out) B2.out
  by_cases h8:k=8
  ·have BR:=aB (fun W=>vH t.f W)
   obtain⟨br,hbr⟩:∃ br,decide (t.f.mn=0/\t.f.mx=0/\t.f.rs.length=0/\t.f.kl=0)=br:=⟨_,rfl⟩
   rw [hbr] at BR
   have HBR:=aB hbr
   clear hbr
   have HI:=aB (show ((1<=t.f.n/\t.f.n<=9)/\br=true) ↔ bF c f p t by
    rw [<- HBR.out,FT.out,TK.out,if_neg h1,if_neg h2,if_neg h56,if_neg h7,if_pos h8,decide_eq_true_eq,HKL.out])
   have q1:(t.f.k==1)=false:=beq_eq_false_iff_ne.2 (by rw [HKK.out];omega)
   have q3:(t.f.k==3)=false:=beq_eq_false_iff_ne.2 (by rw [HKK.out];omega)
   have q4:(t.f.k==4)=false:=beq_eq_false_iff_ne.2 (by rw [HKK.out];omega)
   have q2:(t.f.k==2)=false:=beq_eq_false_iff_ne.2 (by rw [HKK.out];omega)
   have q5:(t.f.k==5)=false:=beq_eq_false_iff_ne.2 (by rw [HKK.out];omega)
   have q6:(t.f.k==6)=false:=beq_eq_false_iff_ne.2 (by rw [HKK.out];omega)
   have q7:(t.f.k==7)=false:=beq_eq_false_iff_ne.2 (by rw [HKK.out];omega)
   have q8:(t.f.k==8)=true:=beq_iff_eq.2 (by rw [HKK.out];omega)
   clear h1 h2 h56 h7 h8
   by_cases g1:1<=t.f.n
   ·by_cases g2:t.f.n<=9
    ·have HI2:=aB (show br=true ↔ bF c f p t from ⟨fun z=>HI.out.1 ⟨⟨g1,g2⟩,z⟩,fun z=>(HI.out.2 z).2⟩)
     go_wp2_with (go_at_call 134;(with_reducible refine(BR.out _).mono ?_);rintro e W8 ⟨rfl,h8⟩;have B8:=aB (aG B2.out h8 lz9);clear h8)
     go_ret
     exact FormedP.mk br rfl (HI2.out) B8.out
    ·have HI2:=aB (show false=true ↔ bF c f p t from ⟨fun z=>(by cases z),fun z=>absurd (HI.out.2 z).1.2 g2⟩)
     go_wp2
     go_ret
     exact FormedP.mk false rfl (HI2.out) B2.out
   ·have HI2:=aB (show false=true ↔ bF c f p t from ⟨fun z=>(by cases z),fun z=>absurd (HI.out.2 z).1.1 g1⟩)
    go_wp2
    go_ret
    exact FormedP.mk false rfl (HI2.out) B2.out
  by_cases h9:k=9
  ·have BR:=aB (fun W=>vI t.f W)
   obtain⟨br,hbr⟩:∃ br,decide (t.f.n=0/\t.f.rs.length=0)=br:=⟨_,rfl⟩
   rw [hbr] at BR
   have HBR:=aB hbr
   clear hbr
   have BD:=aB (fun W=>aB7 t.f.mn t.f.mx W)
   obtain⟨bd,hbd⟩:∃ bd,dL t.f.mn t.f.mx=bd:=⟨_,rfl⟩
   rw [hbd] at BD
   have HBD:=aB hbd
   clear hbd
   have HI:=aB (show (bd=true/\ln=1/\br=true) ↔ bF c f p t by
    rw [<- HBR.out,FT.out,TK.out,if_neg h1,if_neg h2,if_neg h56,if_neg h7,if_neg h8,if_pos h9,decide_eq_true_eq,<- HLN.out,HKL.out,HBD.out])
   have q1:(t.f.k==1)=false:=beq_eq_false_iff_ne.2 (by rw [HKK.out];omega)
   have q3:(t.f.k==3)=false:=beq_eq_false_iff_ne.2 (by rw [HKK.out];omega)
   have q4:(t.f.k==4)=false:=beq_eq_false_iff_ne.2 (by rw [HKK.out];omega)
   have q2:(t.f.k==2)=false:=beq_eq_false_iff_ne.2 (by rw [HKK.out];omega)
   have q5:(t.f.k==5)=false:=beq_eq_false_iff_ne.2 (by rw [HKK.out];omega)
   have q6:(t.f.k==6)=false:=beq_eq_false_iff_ne.2 (by rw [HKK.out];omega)
   have q7:(t.f.k==7)=false:=beq_eq_false_iff_ne.2 (by rw [HKK.out];omega)
   have q8:(t.f.k==8)=false:=beq_eq_false_iff_ne.2 (by rw [HKK.out];omega)
   have q9:(t.f.k==9)=true:=beq_iff_eq.2 (by rw [HKK.out];omega)
   clear h1 h2 h56 h7 h8 h9
   cases bd with
   | false=>
    have HI2:=aB (show false=true ↔ bF c f p t from ⟨fun z=>(by cases z),fun z=>(HI.out.2 z).1⟩)
    go_wp2_with (go_at_call 136;(with_reducible refine(BD.out _).mono ?_);rintro e w5 ⟨rfl,h5⟩;subst w5)
    go_ret
    exact FormedP.mk false rfl (HI2.out) B2.out
   | true=>
    by_cases hl:ln=1
    ·have el:((t.f.kl:Int)==1)=true:=beq_iff_eq.2 (by rw [HLN.out];omega)
     have HI2:=aB (show br=true ↔ bF c f p t from ⟨fun z=>HI.out.1 ⟨rfl,hl,z⟩,fun z=>(HI.out.2 z).2.2⟩)
     clear hl
     go_wp2_with first |(go_at_call 136;(with_reducible refine(BD.out _).mono ?_);rintro e w5 ⟨rfl,h5⟩;subst w5) |(go_at_call 134;(with_reducible refine(BR.out _).mono ?_);rintro e W8 ⟨rfl,h8⟩;have B8:=aB (aG B2.out h8 lz9);clear h8)
     go_ret
     exact FormedP.mk br rfl (HI2.out) B8.out
    ·have el:((t.f.kl:Int)==1)=false:=beq_eq_false_iff_ne.2 (by rw [HLN.out];omega)
     have HI2:=aB (show false=true ↔ bF c f p t from ⟨fun z=>(by cases z),fun z=>absurd (HI.out.2 z).2.1 hl⟩)
     clear hl
     go_wp2_with (go_at_call 136;(with_reducible refine(BD.out _).mono ?_);rintro e w5 ⟨rfl,h5⟩;subst w5)
     go_ret
     exact FormedP.mk false rfl (HI2.out) B2.out
  have q1:(t.f.k==1)=false:=beq_eq_false_iff_ne.2 (by rw [HKK.out];omega)
  have q3:(t.f.k==3)=false:=beq_eq_false_iff_ne.2 (by rw [HKK.out];omega)
  have q4:(t.f.k==4)=false:=beq_eq_false_iff_ne.2 (by rw [HKK.out];omega)
  have q2:(t.f.k==2)=false:=beq_eq_false_iff_ne.2 (by rw [HKK.out];omega)
  have q5:(t.f.k==5)=false:=beq_eq_false_iff_ne.2 (by rw [HKK.out];omega)
  have q6:(t.f.k==6)=false:=beq_eq_false_iff_ne.2 (by rw [HKK.out];omega)
  have q7:(t.f.k==7)=false:=beq_eq_false_iff_ne.2 (by rw [HKK.out];omega)
  have q8:(t.f.k==8)=false:=beq_eq_false_iff_ne.2 (by rw [HKK.out];omega)
  have q9:(t.f.k==9)=false:=beq_eq_false_iff_ne.2 (by rw [HKK.out];omega)
  have HI2:=aB (show false=true ↔ bF c f p t from ⟨fun z=>(by cases z),fun z=>by
   have:=TK.out.1 (FT.out.1 z)
   rw [if_neg h1,if_neg h2,if_neg h56,if_neg h7,if_neg h8,if_neg h9] at this
   exact this.elim⟩)
  clear h1 h2 h56 h7 h8 h9
  go_wp2
  go_ret
  exact FormedP.mk false rfl (HI2.out) B2.out
def gD(most:Nat)(t:Tr):List Zl:=iE most [] ([],t)
theorem gC(most:Nat)(t:Tr):(gD most t).map (·.1)=(pp [] t).take most:=by
 unfold gD iE
 rw [List.nil_append,List.length_nil,Nat.sub_zero,List.map_take,wW]
theorem jP(most:Nat)(t:Tr):(gD most t).length=min most (pp [] t).length:=by
 have:=congrArg List.length (gC most t)
 rwa [List.length_map,List.length_take] at this
theorem kS(t:Tr):(gD 2001 t).length=iZ t:=by rw [jP,iZ];omega
def aK5(w:World)(L:List Zl)(e:Ending)(w':World):Prop:=∃ q c,e=.returned (.slice q L.length c)/\ZR w.heap.size w' (.slice q L.length c) L/\Below w.heap.size w w'
theorem mL{w:World}{t:Tr}(most:Nat)(hm:most<=100000)(hta:TB w t):Calls Tryz.prog 43 #[.agg #[.int .i64 t.f.k,.int .i64 t.f.n,.int .i64 t.f.mn,.int .i64 t.f.mx,.slice t.f.rq t.f.rs.length t.f.rc,.slice t.f.kq t.f.kl t.f.kc],.int .i64 (most:Int)] w (aK5 w (gD most t)):=by
 have B1:Hid (Below w.heap.size w (w.alloc (.cells #[.int .i64 t.f.k,.int .i64 t.f.n,.int .i64 t.f.mn,.int .i64 t.f.mx,.slice t.f.rq t.f.rs.length t.f.rc,.slice t.f.kq t.f.kl t.f.kc] 25))):=bz9
 have N1:BoxN (w.alloc (.cells #[.int .i64 t.f.k,.int .i64 t.f.n,.int .i64 t.f.mn,.int .i64 t.f.mx,.slice t.f.rq t.f.rs.length t.f.rc,.slice t.f.kq t.f.kl t.f.kc] 25)) w.heap.size t.f:=aF w _
 obtain⟨c0,c1,c2,c3,c4,c5⟩:=N1.six
 simp only [Nat.zero_add] at c1 c2 c3 c4 c5
 have LY:Hid (Calls Tryz.prog 92 #[.slice none 0 0,.agg #[.int .i64 t.f.k,.int .i64 t.f.n,.int .i64 t.f.mn,.int .i64 t.f.mx,.slice t.f.rq t.f.rs.length t.f.rc,.slice t.f.kq t.f.kl t.f.kc,.int .i64 1,.int .i64 0,.bool true,.bool true,.bool true,.int .i64 0],.int .i64 (most:Int)] (w.alloc (.cells #[.int .i64 t.f.k,.int .i64 t.f.n,.int .i64 t.f.mn,.int .i64 t.f.mx,.slice t.f.rq t.f.rs.length t.f.rc,.slice t.f.kq t.f.kl t.f.kc] 25)) (rZ w (w.alloc (.cells #[.int .i64 t.f.k,.int .i64 t.f.n,.int .i64 t.f.mn,.int .i64 t.f.mx,.slice t.f.rq t.f.rs.length t.f.rc,.slice t.f.kq t.f.kl t.f.kc] 25)) (.slice none 0 0) (gD most t))):=(by
  have h:=aL6 (w0:=w) hm t.sz t [] (w.alloc (.cells #[.int .i64 t.f.k,.int .i64 t.f.n,.int .i64 t.f.mn,.int .i64 t.f.mx,.slice t.f.rq t.f.rs.length t.f.rc,.slice t.f.kq t.f.kl t.f.kc] 25)) [] none 0 lz9 hta B1.out (World.ownsRow_nil _ _ _ _) lz9
  have e:(zc (([],t),0)).toArray=#[.int .i64 t.f.k,.int .i64 t.f.n,.int .i64 t.f.mn,.int .i64 t.f.mx,.slice t.f.rq t.f.rs.length t.f.rc,.slice t.f.kq t.f.kl t.f.kc,.int .i64 1,.int .i64 0,.bool true,.bool true,.bool true,.int .i64 0]:=(by simp [zc,Fl.cells,arP,fiP,laP,brP])
  rw [e] at h
  exact h)
 clear N1 hta
 go_enter Tryz.func43,Tryz.ntmps43
 go_wp2_with (go_at_call 92;(with_reducible refine(LY.out).mono ?_);rintro e w5 ⟨q5,k5,rfl,h51,h52,h53⟩;have X5:=aB h51;have F5:=aB h53;clear h51 h52 h53)
 go_ret
 exact⟨q5,k5,rfl,X5.out,cL B1.out F5.out lz9 (fun k e=>by cases e)⟩
theorem aB6{w:World}{t:Tr}(hta:TB w t):Calls Tryz.prog 16 #[.agg #[.int .i64 t.f.k,.int .i64 t.f.n,.int .i64 t.f.mn,.int .i64 t.f.mx,.slice t.f.rq t.f.rs.length t.f.rc,.slice t.f.kq t.f.kl t.f.kc]] w fun e w'=>e=.returned (.int .i64 (iZ t:Int))/\Below w.heap.size w w':=by
 have B1:Hid (Below w.heap.size w (w.alloc (.cells #[.int .i64 t.f.k,.int .i64 t.f.n,.int .i64 t.f.mn,.int .i64 t.f.mx,.slice t.f.rq t.f.rs.length t.f.rc,.slice t.f.kq t.f.kl t.f.kc] 25))):=bz9
 have N1:BoxN (w.alloc (.cells #[.int .i64 t.f.k,.int .i64 t.f.n,.int .i64 t.f.mn,.int .i64 t.f.mx,.slice t.f.rq t.f.rs.length t.f.rc,.slice t.f.kq t.f.kl t.f.kc] 25)) w.heap.size t.f:=aF w _
 obtain⟨c0,c1,c2,c3,c4,c5⟩:=N1.six
 simp only [Nat.zero_add] at c1 c2 c3 c4 c5
 have LD:=aB (mL (w:=w.alloc (.cells #[.int .i64 t.f.k,.int .i64 t.f.n,.int .i64 t.f.mn,.int .i64 t.f.mx,.slice t.f.rq t.f.rs.length t.f.rc,.slice t.f.kq t.f.kl t.f.kc] 25)) 2001 (by omega) (hta.kept B1.out))
 have hl:=kS t
 have HL:=aB hl
 clear N1 hta hl
 go_enter Tryz.func16,Tryz.ntmps16
 go_wp2_with (go_at_call 43;refine(LD.out).mono ?_;rintro e w5 ⟨q5,k5,rfl,h51,h52⟩;have B5:=aB h52;clear h51 h52)
 go_ret
 refine⟨?_,aG B1.out B5.out lz9⟩
 show Ending.returned (.int .i64 ((gD 2001 t).length:Int))=_
 rw [HL.out]
theorem ZR.cells{base:Nat}{W:World}{g c:Nat}{L:List Zl}(h:ZR base W (.slice (some ⟨g,0,none⟩) L.length c) L){i:Nat}{z:Zl}(hi:L[i]?=some z){j:Nat}{v:Value}(hj:(zc z)[j]?=some v):W.cell? ⟨g,i * 12+j,none⟩=some v:=
 bA h ((fO L i j z hi (by have:=(List.getElem?_eq_some_iff.1 hj).1;rw [fU] at this;exact this)).trans hj)
end Go.Proofs.YticfnglebbakkaaGreatDoor
