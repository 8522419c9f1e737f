/-
  Parts of the proof.
-/
import Derived.Test.YtlamifbjklpdbaaGreatLessProofA0
import Derived.Test.YtlamifbjklpdbaaGreatLessProofB17
import Derived.Test.YtlamifbjklpdbaaGreatLessProofB16
import Derived.Test.YtlamifbjklpdbaaGreatLessProofB9
import Derived.Test.YtlamifbjklpdbaaGreatLessProofB10
import Derived.Laws.AppendOwnNone
import Derived.Test.YtlamifbjklpdbaaGreatLessProofB12
import Derived.Test.YtlamifbjklpdbaaGreatLessProofB8
import Derived.Laws.MakeOwn
set_option linter.unusedSimpArgs false
set_option maxRecDepth 100000
set_option maxHeartbeats 8000000
namespace Go.Proofs.YtlamifbjklpdbaaGreat
open Go Go.RowKit
theorem aP8(k:Int)(w:World):Calls Tryz.prog 56 #[.int .i64 k] w fun e w'=>e=.returned (.bool (bA k))/\w'=w:=by
 have hid:∀ b,bA k=b->Calls Tryz.prog 56 #[.int .i64 k] w fun e w'=>e=.returned (.bool b)/\w'=w:=by
  intro b hb
  by_cases h2:k=2
  ·have e2:(k==2)=true:=by simpa using h2
   have hB:b=true:=by rw [<- hb];simp [bA,h2]
   subst hB
   clear h2 hb
   go_enter Tryz.func56,Tryz.ntmps56
   go_wp2
   go_ret
   exact⟨rfl,rfl⟩
  have e2:(k==2)=false:=by simpa using h2
  by_cases h7:k=7
  ·have e7:(k==7)=true:=by simpa using h7
   have hB:b=true:=by rw [<- hb];simp [bA,h7]
   subst hB
   clear h2 h7 hb
   go_enter Tryz.func56,Tryz.ntmps56
   go_wp2
   go_ret
   exact⟨rfl,rfl⟩
  have e7:(k==7)=false:=by simpa using h7
  by_cases h8:k=8
  ·have e8:(k==8)=true:=by simpa using h8
   have hB:b=true:=by rw [<- hb];simp [bA,h8]
   subst hB
   clear h2 h7 h8 hb
   go_enter Tryz.func56,Tryz.ntmps56
   go_wp2
   go_ret
   exact⟨rfl,rfl⟩
  have e8:(k==8)=false:=by simpa using h8
  by_cases h9:k=9
  ·have e9:(k==9)=true:=by simpa using h9
   have hB:b=true:=by rw [<- hb];simp [bA,h9]
   subst hB
   clear h2 h7 h8 h9 hb
   go_enter Tryz.func56,Tryz.ntmps56
   go_wp2
   go_ret
   exact⟨rfl,rfl⟩
  have e9:(k==9)=false:=by simpa using h9
  have hB:b=false:=by rw [<- hb];simp [bA,h2,h7,h8,h9]
  subst hB
  clear h2 h7 h8 h9 hb
  go_enter Tryz.func56,Tryz.ntmps56
  go_wp2
  go_ret
  exact⟨rfl,rfl⟩
 exact hid _ rfl
theorem aH7(a b:Int)(w:World):Calls Tryz.prog 37 #[.int .i64 a,.int .i64 b] w fun e w'=>e=.returned (.bool (eW a b))/\w'=w:=by
 have hid:∀ r,eW a b=r->Calls Tryz.prog 37 #[.int .i64 a,.int .i64 b] w fun e w'=>e=.returned (.bool r)/\w'=w:=by
  intro r hr
  by_cases h1:(0:Int)<=a
  case neg=>
   have hB:r=false:=by rw [<- hr];simp [eW];omega
   subst hB
   clear hr
   go_enter Tryz.func37,Tryz.ntmps37
   go_wp2
   go_ret
   exact⟨rfl,rfl⟩
  by_cases h2:a<=255
  case neg=>
   have hB:r=false:=by rw [<- hr];simp [eW];omega
   subst hB
   clear hr
   go_enter Tryz.func37,Tryz.ntmps37
   go_wp2
   go_ret
   exact⟨rfl,rfl⟩
  by_cases h3:b=-1
  ·have e3:(b==-1)=true:=by simpa using h3
   have hB:r=true:=by rw [<- hr];simp [eW];omega
   subst hB
   clear hr
   go_enter Tryz.func37,Tryz.ntmps37
   go_wp2
   go_ret
   exact⟨rfl,rfl⟩
  have e3:(b==-1)=false:=by simpa using h3
  by_cases h4:a<=b
  case neg=>
   have hB:r=false:=by rw [<- hr];simp [eW];omega
   subst hB
   clear hr
   go_enter Tryz.func37,Tryz.ntmps37
   go_wp2
   go_ret
   exact⟨rfl,rfl⟩
  by_cases h5:b<=255
  case neg=>
   have hB:r=false:=by rw [<- hr];simp [eW];omega
   subst hB
   clear hr
   go_enter Tryz.func37,Tryz.ntmps37
   go_wp2
   go_ret
   exact⟨rfl,rfl⟩
  have hB:r=true:=by rw [<- hr];simp [eW];omega
  subst hB
  clear hr
  go_enter Tryz.func37,Tryz.ntmps37
  go_wp2
  go_ret
  exact⟨rfl,rfl⟩
 exact hid _ rfl
theorem wM(F:Fl)(w:World):Calls Tryz.prog 34 #[.agg #[.int .i64 F.k,.int .i64 F.n,.int .i64 F.mn,.int .i64 F.mx,.slice F.rq F.rs.length F.rc,.slice F.kq F.kl F.kc],.bool false,.bool false,.bool false,.bool false] w fun e w'=>e=.returned (.bool (decide (F.n=0/\F.mn=0/\F.mx=0/\F.rs.length=0/\F.kl=0)))/\Below w.heap.size w w':=by
 have N1:BoxN (w.alloc (.cells #[.int .i64 F.k,.int .i64 F.n,.int .i64 F.mn,.int .i64 F.mx,.slice F.rq F.rs.length F.rc,.slice F.kq F.kl F.kc] 25)) w.heap.size F:=aD w _
 have B1:Hid (Below w.heap.size w (w.alloc (.cells #[.int .i64 F.k,.int .i64 F.n,.int .i64 F.mn,.int .i64 F.mx,.slice F.rq F.rs.length F.rc,.slice F.kq F.kl F.kc] 25))):=bz9
 obtain⟨c0,c1,c2,c3,c4,c5⟩:=N1.six
 simp only [a7] at c1 c2 c3 c4 c5
 clear N1
 have hid:∀ r,decide (F.n=0/\F.mn=0/\F.mx=0/\F.rs.length=0/\F.kl=0)=r->Calls Tryz.prog 34 #[.agg #[.int .i64 F.k,.int .i64 F.n,.int .i64 F.mn,.int .i64 F.mx,.slice F.rq F.rs.length F.rc,.slice F.kq F.kl F.kc],.bool false,.bool false,.bool false,.bool false] w fun e w'=>e=.returned (.bool r)/\Below w.heap.size w w':=by
  intro r hr0
  by_cases hn:F.n=0
  case neg=>
   have ehn:(F.n==0)=false:=a8.2 (by omega)
   have hB:r=false:=by rw [<- hr0];exact j8 (by omega)
   clear hn
   subst hB
   clear hr0
   go_enter Tryz.func34,Tryz.ntmps34
   go_wp2
   go_ret
   exact⟨rfl,B1.out⟩
  have ehn:(F.n==0)=true:=beq_iff_eq.2 (by omega)
  have Hhn:=aB hn
  clear hn
  by_cases hm:F.mn=0
  case neg=>
   have ehm:(F.mn==0)=false:=a8.2 (by omega)
   have hB:r=false:=by rw [<- hr0];exact j8 (by omega)
   clear hm
   subst hB
   clear hr0
   go_enter Tryz.func34,Tryz.ntmps34
   go_wp2
   go_ret
   exact⟨rfl,B1.out⟩
  have ehm:(F.mn==0)=true:=beq_iff_eq.2 (by omega)
  have Hhm:=aB hm
  clear hm
  by_cases hx:F.mx=0
  case neg=>
   have ehx:(F.mx==0)=false:=a8.2 (by omega)
   have hB:r=false:=by rw [<- hr0];exact j8 (by omega)
   clear hx
   subst hB
   clear hr0
   go_enter Tryz.func34,Tryz.ntmps34
   go_wp2
   go_ret
   exact⟨rfl,B1.out⟩
  have ehx:(F.mx==0)=true:=beq_iff_eq.2 (by omega)
  have Hhx:=aB hx
  clear hx
  by_cases hr:F.rs.length=0
  case neg=>
   have ehr:((F.rs.length:Int)==0)=false:=a8.2 (by omega)
   have hB:r=false:=by rw [<- hr0];exact j8 (by omega)
   clear hr
   subst hB
   clear hr0
   go_enter Tryz.func34,Tryz.ntmps34
   go_wp2
   go_ret
   exact⟨rfl,B1.out⟩
  have ehr:((F.rs.length:Int)==0)=true:=beq_iff_eq.2 (by omega)
  have Hhr:=aB hr
  clear hr
  by_cases hk:F.kl=0
  case neg=>
   have ehk:((F.kl:Int)==0)=false:=a8.2 (by omega)
   have hB:r=false:=by rw [<- hr0];exact j8 (by omega)
   clear hk
   subst hB
   clear hr0
   go_enter Tryz.func34,Tryz.ntmps34
   go_wp2
   go_ret
   exact⟨rfl,B1.out⟩
  have ehk:((F.kl:Int)==0)=true:=beq_iff_eq.2 (by omega)
  have Hhk:=aB hk
  clear hk
  have hB:r=true:=by rw [<- hr0];exact r9 (by have:=Hhn.out;have:=Hhm.out;have:=Hhx.out;have:=Hhr.out;have:=Hhk.out;omega)
  subst hB
  clear hr0
  go_enter Tryz.func34,Tryz.ntmps34
  go_wp2
  go_ret
  exact⟨rfl,B1.out⟩
 exact hid _ rfl
theorem wK(F:Fl)(w:World):Calls Tryz.prog 34 #[.agg #[.int .i64 F.k,.int .i64 F.n,.int .i64 F.mn,.int .i64 F.mx,.slice F.rq F.rs.length F.rc,.slice F.kq F.kl F.kc],.bool false,.bool false,.bool true,.bool false] w fun e w'=>e=.returned (.bool (decide (F.n=0/\F.mn=0/\F.mx=0/\F.kl=0)))/\Below w.heap.size w w':=by
 have N1:BoxN (w.alloc (.cells #[.int .i64 F.k,.int .i64 F.n,.int .i64 F.mn,.int .i64 F.mx,.slice F.rq F.rs.length F.rc,.slice F.kq F.kl F.kc] 25)) w.heap.size F:=aD w _
 have B1:Hid (Below w.heap.size w (w.alloc (.cells #[.int .i64 F.k,.int .i64 F.n,.int .i64 F.mn,.int .i64 F.mx,.slice F.rq F.rs.length F.rc,.slice F.kq F.kl F.kc] 25))):=bz9
 obtain⟨c0,c1,c2,c3,c4,c5⟩:=N1.six
 simp only [a7] at c1 c2 c3 c4 c5
 clear N1
 have hid:∀ r,decide (F.n=0/\F.mn=0/\F.mx=0/\F.kl=0)=r->Calls Tryz.prog 34 #[.agg #[.int .i64 F.k,.int .i64 F.n,.int .i64 F.mn,.int .i64 F.mx,.slice F.rq F.rs.length F.rc,.slice F.kq F.kl F.kc],.bool false,.bool false,.bool true,.bool false] w fun e w'=>e=.returned (.bool r)/\Below w.heap.size w w':=by
  intro r hr0
  by_cases hn:F.n=0
  case neg=>
   have ehn:(F.n==0)=false:=a8.2 (by omega)
   have hB:r=false:=by rw [<- hr0];exact j8 (by omega)
   clear hn
   subst hB
   clear hr0
   go_enter Tryz.func34,Tryz.ntmps34
   go_wp2
   go_ret
   exact⟨rfl,B1.out⟩
  have ehn:(F.n==0)=true:=beq_iff_eq.2 (by omega)
  have Hhn:=aB hn
  clear hn
  by_cases hm:F.mn=0
  case neg=>
   have ehm:(F.mn==0)=false:=a8.2 (by omega)
   have hB:r=false:=by rw [<- hr0];exact j8 (by omega)
   clear hm
   subst hB
   clear hr0
   go_enter Tryz.func34,Tryz.ntmps34
   go_wp2
   go_ret
   exact⟨rfl,B1.out⟩
  have ehm:(F.mn==0)=true:=beq_iff_eq.2 (by omega)
  have Hhm:=aB hm
  clear hm
  by_cases hx:F.mx=0
  case neg=>
   have ehx:(F.mx==0)=false:=a8.2 (by omega)
   have hB:r=false:=by rw [<- hr0];exact j8 (by omega)
   clear hx
   subst hB
   clear hr0
   go_enter Tryz.func34,Tryz.ntmps34
   go_wp2
   go_ret
   exact⟨rfl,B1.out⟩
  have ehx:(F.mx==0)=true:=beq_iff_eq.2 (by omega)
  have Hhx:=aB hx
  clear hx
  by_cases hk:F.kl=0
  case neg=>
   have ehk:((F.kl:Int)==0)=false:=a8.2 (by omega)
   have hB:r=false:=by rw [<- hr0];exact j8 (by omega)
   clear hk
   subst hB
   clear hr0
   go_enter Tryz.func34,Tryz.ntmps34
   go_wp2
   go_ret
   exact⟨rfl,B1.out⟩
  have ehk:((F.kl:Int)==0)=true:=beq_iff_eq.2 (by omega)
  have Hhk:=aB hk
  clear hk
  have hB:r=true:=by rw [<- hr0];exact r9 (by have:=Hhn.out;have:=Hhm.out;have:=Hhx.out;have:=Hhk.out;omega)
  subst hB
  clear hr0
  go_enter Tryz.func34,Tryz.ntmps34
  go_wp2
  go_ret
  exact⟨rfl,B1.out⟩
 exact hid _ rfl
theorem wL(F:Fl)(w:World):Calls Tryz.prog 34 #[.agg #[.int .i64 F.k,.int .i64 F.n,.int .i64 F.mn,.int .i64 F.mx,.slice F.rq F.rs.length F.rc,.slice F.kq F.kl F.kc],.bool false,.bool false,.bool false,.bool true] w fun e w'=>e=.returned (.bool (decide (F.n=0/\F.mn=0/\F.mx=0/\F.rs.length=0)))/\Below w.heap.size w w':=by
 have N1:BoxN (w.alloc (.cells #[.int .i64 F.k,.int .i64 F.n,.int .i64 F.mn,.int .i64 F.mx,.slice F.rq F.rs.length F.rc,.slice F.kq F.kl F.kc] 25)) w.heap.size F:=aD w _
 have B1:Hid (Below w.heap.size w (w.alloc (.cells #[.int .i64 F.k,.int .i64 F.n,.int .i64 F.mn,.int .i64 F.mx,.slice F.rq F.rs.length F.rc,.slice F.kq F.kl F.kc] 25))):=bz9
 obtain⟨c0,c1,c2,c3,c4,c5⟩:=N1.six
 simp only [a7] at c1 c2 c3 c4 c5
 clear N1
 have hid:∀ r,decide (F.n=0/\F.mn=0/\F.mx=0/\F.rs.length=0)=r->Calls Tryz.prog 34 #[.agg #[.int .i64 F.k,.int .i64 F.n,.int .i64 F.mn,.int .i64 F.mx,.slice F.rq F.rs.length F.rc,.slice F.kq F.kl F.kc],.bool false,.bool false,.bool false,.bool true] w fun e w'=>e=.returned (.bool r)/\Below w.heap.size w w':=by
  intro r hr0
  by_cases hn:F.n=0
  case neg=>
   have ehn:(F.n==0)=false:=a8.2 (by omega)
   have hB:r=false:=by rw [<- hr0];exact j8 (by omega)
   clear hn
   subst hB
   clear hr0
   go_enter Tryz.func34,Tryz.ntmps34
   go_wp2
   go_ret
   exact⟨rfl,B1.out⟩
  have ehn:(F.n==0)=true:=beq_iff_eq.2 (by omega)
  have Hhn:=aB hn
  clear hn
  by_cases hm:F.mn=0
  case neg=>
   have ehm:(F.mn==0)=false:=a8.2 (by omega)
   have hB:r=false:=by rw [<- hr0];exact j8 (by omega)
   clear hm
   subst hB
   clear hr0
   go_enter Tryz.func34,Tryz.ntmps34
   go_wp2
   go_ret
   exact⟨rfl,B1.out⟩
  have ehm:(F.mn==0)=true:=beq_iff_eq.2 (by omega)
  have Hhm:=aB hm
  clear hm
  by_cases hx:F.mx=0
  case neg=>
   have ehx:(F.mx==0)=false:=a8.2 (by omega)
   have hB:r=false:=by rw [<- hr0];exact j8 (by omega)
   clear hx
   subst hB
   clear hr0
   go_enter Tryz.func34,Tryz.ntmps34
   go_wp2
   go_ret
   exact⟨rfl,B1.out⟩
  have ehx:(F.mx==0)=true:=beq_iff_eq.2 (by omega)
  have Hhx:=aB hx
  clear hx
  by_cases hr:F.rs.length=0
  case neg=>
   have ehr:((F.rs.length:Int)==0)=false:=a8.2 (by omega)
   have hB:r=false:=by rw [<- hr0];exact j8 (by omega)
   clear hr
   subst hB
   clear hr0
   go_enter Tryz.func34,Tryz.ntmps34
   go_wp2
   go_ret
   exact⟨rfl,B1.out⟩
  have ehr:((F.rs.length:Int)==0)=true:=beq_iff_eq.2 (by omega)
  have Hhr:=aB hr
  clear hr
  have hB:r=true:=by rw [<- hr0];exact r9 (by have:=Hhn.out;have:=Hhm.out;have:=Hhx.out;have:=Hhr.out;omega)
  subst hB
  clear hr0
  go_enter Tryz.func34,Tryz.ntmps34
  go_wp2
  go_ret
  exact⟨rfl,B1.out⟩
 exact hid _ rfl
theorem wH(F:Fl)(w:World):Calls Tryz.prog 34 #[.agg #[.int .i64 F.k,.int .i64 F.n,.int .i64 F.mn,.int .i64 F.mx,.slice F.rq F.rs.length F.rc,.slice F.kq F.kl F.kc],.bool true,.bool false,.bool false,.bool true] w fun e w'=>e=.returned (.bool (decide (F.mn=0/\F.mx=0/\F.rs.length=0)))/\Below w.heap.size w w':=by
 have N1:BoxN (w.alloc (.cells #[.int .i64 F.k,.int .i64 F.n,.int .i64 F.mn,.int .i64 F.mx,.slice F.rq F.rs.length F.rc,.slice F.kq F.kl F.kc] 25)) w.heap.size F:=aD w _
 have B1:Hid (Below w.heap.size w (w.alloc (.cells #[.int .i64 F.k,.int .i64 F.n,.int .i64 F.mn,.int .i64 F.mx,.slice F.rq F.rs.length F.rc,.slice F.kq F.kl F.kc] 25))):=bz9
 obtain⟨c0,c1,c2,c3,c4,c5⟩:=N1.six
 simp only [a7] at c1 c2 c3 c4 c5
 clear N1
 have hid:∀ r,decide (F.mn=0/\F.mx=0/\F.rs.length=0)=r->Calls Tryz.prog 34 #[.agg #[.int .i64 F.k,.int .i64 F.n,.int .i64 F.mn,.int .i64 F.mx,.slice F.rq F.rs.length F.rc,.slice F.kq F.kl F.kc],.bool true,.bool false,.bool false,.bool true] w fun e w'=>e=.returned (.bool r)/\Below w.heap.size w w':=by
  intro r hr0
  by_cases hm:F.mn=0
  case neg=>
   have ehm:(F.mn==0)=false:=a8.2 (by omega)
   have hB:r=false:=by rw [<- hr0];exact j8 (by omega)
   clear hm
   subst hB
   clear hr0
   go_enter Tryz.func34,Tryz.ntmps34
   go_wp2
   go_ret
   exact⟨rfl,B1.out⟩
  have ehm:(F.mn==0)=true:=beq_iff_eq.2 (by omega)
  have Hhm:=aB hm
  clear hm
  by_cases hx:F.mx=0
  case neg=>
   have ehx:(F.mx==0)=false:=a8.2 (by omega)
   have hB:r=false:=by rw [<- hr0];exact j8 (by omega)
   clear hx
   subst hB
   clear hr0
   go_enter Tryz.func34,Tryz.ntmps34
   go_wp2
   go_ret
   exact⟨rfl,B1.out⟩
  have ehx:(F.mx==0)=true:=beq_iff_eq.2 (by omega)
  have Hhx:=aB hx
  clear hx
  by_cases hr:F.rs.length=0
  case neg=>
   have ehr:((F.rs.length:Int)==0)=false:=a8.2 (by omega)
   have hB:r=false:=by rw [<- hr0];exact j8 (by omega)
   clear hr
   subst hB
   clear hr0
   go_enter Tryz.func34,Tryz.ntmps34
   go_wp2
   go_ret
   exact⟨rfl,B1.out⟩
  have ehr:((F.rs.length:Int)==0)=true:=beq_iff_eq.2 (by omega)
  have Hhr:=aB hr
  clear hr
  have hB:r=true:=by rw [<- hr0];exact r9 (by have:=Hhm.out;have:=Hhx.out;have:=Hhr.out;omega)
  subst hB
  clear hr0
  go_enter Tryz.func34,Tryz.ntmps34
  go_wp2
  go_ret
  exact⟨rfl,B1.out⟩
 exact hid _ rfl
theorem wI(F:Fl)(w:World):Calls Tryz.prog 34 #[.agg #[.int .i64 F.k,.int .i64 F.n,.int .i64 F.mn,.int .i64 F.mx,.slice F.rq F.rs.length F.rc,.slice F.kq F.kl F.kc],.bool true,.bool false,.bool false,.bool false] w fun e w'=>e=.returned (.bool (decide (F.mn=0/\F.mx=0/\F.rs.length=0/\F.kl=0)))/\Below w.heap.size w w':=by
 have N1:BoxN (w.alloc (.cells #[.int .i64 F.k,.int .i64 F.n,.int .i64 F.mn,.int .i64 F.mx,.slice F.rq F.rs.length F.rc,.slice F.kq F.kl F.kc] 25)) w.heap.size F:=aD w _
 have B1:Hid (Below w.heap.size w (w.alloc (.cells #[.int .i64 F.k,.int .i64 F.n,.int .i64 F.mn,.int .i64 F.mx,.slice F.rq F.rs.length F.rc,.slice F.kq F.kl F.kc] 25))):=bz9
 obtain⟨c0,c1,c2,c3,c4,c5⟩:=N1.six
 simp only [a7] at c1 c2 c3 c4 c5
 clear N1
 have hid:∀ r,decide (F.mn=0/\F.mx=0/\F.rs.length=0/\F.kl=0)=r->Calls Tryz.prog 34 #[.agg #[.int .i64 F.k,.int .i64 F.n,.int .i64 F.mn,.int .i64 F.mx,.slice F.rq F.rs.length F.rc,.slice F.kq F.kl F.kc],.bool true,.bool false,.bool false,.bool false] w fun e w'=>e=.returned (.bool r)/\Below w.heap.size w w':=by
  intro r hr0
  by_cases hm:F.mn=0
  case neg=>
   have ehm:(F.mn==0)=false:=a8.2 (by omega)
   have hB:r=false:=by rw [<- hr0];exact j8 (by omega)
   clear hm
   subst hB
   clear hr0
   go_enter Tryz.func34,Tryz.ntmps34
   go_wp2
   go_ret
   exact⟨rfl,B1.out⟩
  have ehm:(F.mn==0)=true:=beq_iff_eq.2 (by omega)
  have Hhm:=aB hm
  clear hm
  by_cases hx:F.mx=0
  case neg=>
   have ehx:(F.mx==0)=false:=a8.2 (by omega)
   have hB:r=false:=by rw [<- hr0];exact j8 (by omega)
   clear hx
   subst hB
   clear hr0
   go_enter Tryz.func34,Tryz.ntmps34
   go_wp2
   go_ret
   exact⟨rfl,B1.out⟩
  have ehx:(F.mx==0)=true:=beq_iff_eq.2 (by omega)
  have Hhx:=aB hx
  clear hx
  by_cases hr:F.rs.length=0
  case neg=>
   have ehr:((F.rs.length:Int)==0)=false:=a8.2 (by omega)
   have hB:r=false:=by rw [<- hr0];exact j8 (by omega)
   clear hr
   subst hB
   clear hr0
   go_enter Tryz.func34,Tryz.ntmps34
   go_wp2
   go_ret
   exact⟨rfl,B1.out⟩
  have ehr:((F.rs.length:Int)==0)=true:=beq_iff_eq.2 (by omega)
  have Hhr:=aB hr
  clear hr
  by_cases hk:F.kl=0
  case neg=>
   have ehk:((F.kl:Int)==0)=false:=a8.2 (by omega)
   have hB:r=false:=by rw [<- hr0];exact j8 (by omega)
   clear hk
   subst hB
   clear hr0
   go_enter Tryz.func34,Tryz.ntmps34
   go_wp2
   go_ret
   exact⟨rfl,B1.out⟩
  have ehk:((F.kl:Int)==0)=true:=beq_iff_eq.2 (by omega)
  have Hhk:=aB hk
  clear hk
  have hB:r=true:=by rw [<- hr0];exact r9 (by have:=Hhm.out;have:=Hhx.out;have:=Hhr.out;have:=Hhk.out;omega)
  subst hB
  clear hr0
  go_enter Tryz.func34,Tryz.ntmps34
  go_wp2
  go_ret
  exact⟨rfl,B1.out⟩
 exact hid _ rfl
theorem wJ(F:Fl)(w:World):Calls Tryz.prog 34 #[.agg #[.int .i64 F.k,.int .i64 F.n,.int .i64 F.mn,.int .i64 F.mx,.slice F.rq F.rs.length F.rc,.slice F.kq F.kl F.kc],.bool false,.bool true,.bool false,.bool true] w fun e w'=>e=.returned (.bool (decide (F.n=0/\F.rs.length=0)))/\Below w.heap.size w w':=by
 have N1:BoxN (w.alloc (.cells #[.int .i64 F.k,.int .i64 F.n,.int .i64 F.mn,.int .i64 F.mx,.slice F.rq F.rs.length F.rc,.slice F.kq F.kl F.kc] 25)) w.heap.size F:=aD w _
 have B1:Hid (Below w.heap.size w (w.alloc (.cells #[.int .i64 F.k,.int .i64 F.n,.int .i64 F.mn,.int .i64 F.mx,.slice F.rq F.rs.length F.rc,.slice F.kq F.kl F.kc] 25))):=bz9
 obtain⟨c0,c1,c2,c3,c4,c5⟩:=N1.six
 simp only [a7] at c1 c2 c3 c4 c5
 clear N1
 have hid:∀ r,decide (F.n=0/\F.rs.length=0)=r->Calls Tryz.prog 34 #[.agg #[.int .i64 F.k,.int .i64 F.n,.int .i64 F.mn,.int .i64 F.mx,.slice F.rq F.rs.length F.rc,.slice F.kq F.kl F.kc],.bool false,.bool true,.bool false,.bool true] w fun e w'=>e=.returned (.bool r)/\Below w.heap.size w w':=by
  intro r hr0
  by_cases hn:F.n=0
  case neg=>
   have ehn:(F.n==0)=false:=a8.2 (by omega)
   have hB:r=false:=by rw [<- hr0];exact j8 (by omega)
   clear hn
   subst hB
   clear hr0
   go_enter Tryz.func34,Tryz.ntmps34
   go_wp2
   go_ret
   exact⟨rfl,B1.out⟩
  have ehn:(F.n==0)=true:=beq_iff_eq.2 (by omega)
  have Hhn:=aB hn
  clear hn
  by_cases hr:F.rs.length=0
  case neg=>
   have ehr:((F.rs.length:Int)==0)=false:=a8.2 (by omega)
   have hB:r=false:=by rw [<- hr0];exact j8 (by omega)
   clear hr
   subst hB
   clear hr0
   go_enter Tryz.func34,Tryz.ntmps34
   go_wp2
   go_ret
   exact⟨rfl,B1.out⟩
  have ehr:((F.rs.length:Int)==0)=true:=beq_iff_eq.2 (by omega)
  have Hhr:=aB hr
  clear hr
  have hB:r=true:=by rw [<- hr0];exact r9 (by have:=Hhn.out;have:=Hhr.out;omega)
  subst hB
  clear hr0
  go_enter Tryz.func34,Tryz.ntmps34
  go_wp2
  go_ret
  exact⟨rfl,B1.out⟩
 exact hid _ rfl
theorem aH0(p:Way)(t:Tr)(o:Nat)(w:World):Calls Tryz.prog 33 #[.agg #[.int .i64 t.f.k,.int .i64 t.f.n,.int .i64 t.f.mn,.int .i64 t.f.mx,.slice t.f.rq t.f.rs.length t.f.rc,.slice t.f.kq t.f.kl t.f.kc,.int .i64 ((p.length:Int)+1),.int .i64 (arP p),.bool (fiP p),.bool (laP p),.bool (brP p),.int .i64 (o:Int)]] w fun e w'=>e=.returned (.bool (iW p t.f.k))/\Below w.heap.size w w':=by
 have N1:(w.alloc (.cells #[.int .i64 t.f.k,.int .i64 t.f.n,.int .i64 t.f.mn,.int .i64 t.f.mx,.slice t.f.rq t.f.rs.length t.f.rc,.slice t.f.kq t.f.kl t.f.kc,.int .i64 ((p.length:Int)+1),.int .i64 (arP p),.bool (fiP p),.bool (laP p),.bool (brP p),.int .i64 (o:Int)] 56)).heap[w.heap.size]?=some (.cells #[.int .i64 t.f.k,.int .i64 t.f.n,.int .i64 t.f.mn,.int .i64 t.f.mx,.slice t.f.rq t.f.rs.length t.f.rc,.slice t.f.kq t.f.kl t.f.kc,.int .i64 ((p.length:Int)+1),.int .i64 (arP p),.bool (fiP p),.bool (laP p),.bool (brP p),.int .i64 (o:Int)] 56 (0,0)):=aD w _
 have B1:Hid (Below w.heap.size w (w.alloc (.cells #[.int .i64 t.f.k,.int .i64 t.f.n,.int .i64 t.f.mn,.int .i64 t.f.mx,.slice t.f.rq t.f.rs.length t.f.rc,.slice t.f.kq t.f.kl t.f.kc,.int .i64 ((p.length:Int)+1),.int .i64 (arP p),.bool (fiP p),.bool (laP p),.bool (brP p),.int .i64 (o:Int)] 56))):=bz9
 have hid:∀ (k ar:Int) (fi la br:Bool) (r:Bool),(if ar=5 then (if k=3 then br&&fi else if k=4 then br&&la else bA k) else if ar=9 then bA k else if ar=6 then k != 6 else true)=r->(w.alloc (.cells #[.int .i64 t.f.k,.int .i64 t.f.n,.int .i64 t.f.mn,.int .i64 t.f.mx,.slice t.f.rq t.f.rs.length t.f.rc,.slice t.f.kq t.f.kl t.f.kc,.int .i64 ((p.length:Int)+1),.int .i64 (arP p),.bool (fiP p),.bool (laP p),.bool (brP p),.int .i64 (o:Int)] 56)).cell? ⟨w.heap.size,0,none⟩=some (.int .i64 k)->(w.alloc (.cells #[.int .i64 t.f.k,.int .i64 t.f.n,.int .i64 t.f.mn,.int .i64 t.f.mx,.slice t.f.rq t.f.rs.length t.f.rc,.slice t.f.kq t.f.kl t.f.kc,.int .i64 ((p.length:Int)+1),.int .i64 (arP p),.bool (fiP p),.bool (laP p),.bool (brP p),.int .i64 (o:Int)] 56)).cell? ⟨w.heap.size,7,none⟩=some (.int .i64 ar)->(w.alloc (.cells #[.int .i64 t.f.k,.int .i64 t.f.n,.int .i64 t.f.mn,.int .i64 t.f.mx,.slice t.f.rq t.f.rs.length t.f.rc,.slice t.f.kq t.f.kl t.f.kc,.int .i64 ((p.length:Int)+1),.int .i64 (arP p),.bool (fiP p),.bool (laP p),.bool (brP p),.int .i64 (o:Int)] 56)).cell? ⟨w.heap.size,8,none⟩=some (.bool fi)->(w.alloc (.cells #[.int .i64 t.f.k,.int .i64 t.f.n,.int .i64 t.f.mn,.int .i64 t.f.mx,.slice t.f.rq t.f.rs.length t.f.rc,.slice t.f.kq t.f.kl t.f.kc,.int .i64 ((p.length:Int)+1),.int .i64 (arP p),.bool (fiP p),.bool (laP p),.bool (brP p),.int .i64 (o:Int)] 56)).cell? ⟨w.heap.size,9,none⟩=some (.bool la)->(w.alloc (.cells #[.int .i64 t.f.k,.int .i64 t.f.n,.int .i64 t.f.mn,.int .i64 t.f.mx,.slice t.f.rq t.f.rs.length t.f.rc,.slice t.f.kq t.f.kl t.f.kc,.int .i64 ((p.length:Int)+1),.int .i64 (arP p),.bool (fiP p),.bool (laP p),.bool (brP p),.int .i64 (o:Int)] 56)).cell? ⟨w.heap.size,10,none⟩=some (.bool br)->Calls Tryz.prog 33 #[.agg #[.int .i64 t.f.k,.int .i64 t.f.n,.int .i64 t.f.mn,.int .i64 t.f.mx,.slice t.f.rq t.f.rs.length t.f.rc,.slice t.f.kq t.f.kl t.f.kc,.int .i64 ((p.length:Int)+1),.int .i64 (arP p),.bool (fiP p),.bool (laP p),.bool (brP p),.int .i64 (o:Int)]] w fun e w'=>e=.returned (.bool r)/\Below w.heap.size w w':=by
  intro k ar fi la br r hr x0 x7 x8 x9 x10
  have TH:=aB (fun W=>aP8 k W)
  obtain⟨th,hth⟩:∃ th,bA k=th:=⟨_,rfl⟩
  rw [hth] at TH hr
  clear N1 hth
  by_cases a5:ar=5
  ·by_cases k3:k=3
   ·have e5:(ar==5)=true:=by simpa using a5
    have e3:(k==3)=true:=by simpa using k3
    rw [if_pos a5,if_pos k3] at hr
    clear a5 k3
    cases br <;> cases fi
    all_goals (subst hr;go_enter Tryz.func33,Tryz.ntmps33;go_wp2_with (go_at_call 56;(with_reducible refine(TH.out _).mono ?_);rintro e w5 ⟨rfl,h5⟩;subst w5);go_ret;exact⟨rfl,B1.out⟩)
   by_cases k4:k=4
   ·have e5:(ar==5)=true:=by simpa using a5
    have e3:(k==3)=false:=by simpa using k3
    have e4:(k==4)=true:=by simpa using k4
    rw [if_pos a5,if_neg k3,if_pos k4] at hr
    clear a5 k3 k4
    cases br <;> cases la
    all_goals (subst hr;go_enter Tryz.func33,Tryz.ntmps33;go_wp2_with (go_at_call 56;(with_reducible refine(TH.out _).mono ?_);rintro e w5 ⟨rfl,h5⟩;subst w5);go_ret;exact⟨rfl,B1.out⟩)
   have e5:(ar==5)=true:=by simpa using a5
   have e3:(k==3)=false:=by simpa using k3
   have e4:(k==4)=false:=by simpa using k4
   rw [if_pos a5,if_neg k3,if_neg k4] at hr
   clear a5 k3 k4
   subst hr
   go_enter Tryz.func33,Tryz.ntmps33
   go_wp2_with (go_at_call 56;(with_reducible refine(TH.out _).mono ?_);rintro e w5 ⟨rfl,h5⟩;subst w5)
   go_ret
   exact⟨rfl,B1.out⟩
  have e5:(ar==5)=false:=by simpa using a5
  rw [if_neg a5] at hr
  by_cases a9:ar=9
  ·have e9:(ar==9)=true:=by simpa using a9
   rw [if_pos a9] at hr
   clear a5 a9
   subst hr
   go_enter Tryz.func33,Tryz.ntmps33
   go_wp2_with (go_at_call 56;(with_reducible refine(TH.out _).mono ?_);rintro e w5 ⟨rfl,h5⟩;subst w5)
   go_ret
   exact⟨rfl,B1.out⟩
  have e9:(ar==9)=false:=by simpa using a9
  rw [if_neg a9] at hr
  by_cases a6:ar=6
  ·have e6:(ar==6)=true:=by simpa using a6
   rw [if_pos a6] at hr
   clear a5 a9 a6
   subst hr
   go_enter Tryz.func33,Tryz.ntmps33
   go_wp2_with (go_at_call 56;(with_reducible refine(TH.out _).mono ?_);rintro e w5 ⟨rfl,h5⟩;subst w5)
   go_ret
   exact⟨rfl,B1.out⟩
  have e6:(ar==6)=false:=by simpa using a6
  rw [if_neg a6] at hr
  clear a5 a9 a6
  subst hr
  go_enter Tryz.func33,Tryz.ntmps33
  go_wp2_with (go_at_call 56;(with_reducible refine(TH.out _).mono ?_);rintro e w5 ⟨rfl,h5⟩;subst w5)
  go_ret
  exact⟨rfl,B1.out⟩
 exact hid t.f.k (arP p) (fiP p) (laP p) (brP p) _ rfl (aA N1 (i:=0) rfl) (aA N1 (i:=7) rfl) (aA N1 (i:=8) rfl) (aA N1 (i:=9) rfl) (aA N1 (i:=10) rfl)
structure Srt(S:List (Int×Int)):Prop where
 some:∀ r∈S,r.1<=r.2
 rise:S.Pairwise (fun a b=>a.1<=b.1)
theorem pC:Srt []:=⟨fun _ h=>(by cases h),List.Pairwise.nil⟩
theorem qN{r:Int×Int}{L:List (Int×Int)}(h:Srt (r :: L)):Srt L:=⟨fun x hx=>h.some x (b6 _ hx),(aAA.1 h.rise).2⟩
theorem pD{O L:List (Int×Int)}(h:Srt O)(k:Srt L)(hx:∀ x∈O,∀ y∈L,x.1<=y.1):Srt (O++L):=
 ⟨fun r hr=>(j6.1 hr).elim (h.some r) (k.some r),List.pairwise_append.2 ⟨h.rise,k.rise,hx⟩⟩
theorem pB{r:Int×Int}(h:r.1<=r.2):Srt [r]:=⟨fun x hx=>by simp at hx;subst hx;exact h,List.pairwise_singleton _ _⟩
structure MI(A B A' B' O:List (Int×Int)):Prop where
 out:Srt O
 a:Srt A'
 b:Srt B'
 mem:∀ c,(In O c\/In A' c\/In B' c)↔(In A c\/In B c)
 le:∀ x∈O,∀ y,y∈A'\/y∈B'->x.1<=y.1
 fit:Fit O/\Fit A'/\Fit B'
 len:O.length+A'.length+B'.length<=A.length+B.length
theorem MI.start{A B:List (Int×Int)}(ha:Srt A)(hb:Srt B)(fa:Fit A)(fb:Fit B):MI A B A B []:=
 ⟨pC,ha,hb,fun c=>⟨fun q=>q.elim (fun q=>absurd q (eX c)) id,.inr⟩,fun _ h=>(by cases h),⟨eE,fa,fb⟩,by simp⟩
theorem MI.right{A B A' B' O:List (Int×Int)}{a b:Int×Int}(I:MI A B (a :: A') (b :: B') O)(h:b.1<a.1):MI A B (a :: A') B' (O++[b]):=by
 refine⟨pD I.out (pB (I.b.some b (by simp))) (fun x hx y hy=>by simp at hy;subst hy;exact I.le x hx y (.inr (by simp))),I.a,qN I.b,fun c=>?_,fun x hx y hy=>?_,⟨cM I.fit.1 (dE I.fit.2.2 fun z hz=>by simp at hz;subst hz;simp),I.fit.2.1,dE I.fit.2.2 fun z hz=>b6 _ hz⟩,by have:=I.len;simp at *;omega⟩
 ·rw [<- I.mem,bZ,dN,bF b B']
  constructor
  ·rintro ((q | q) | q | q)
   ·exact .inl q
   ·exact .inr (.inr (.inl q))
   ·exact .inr (.inl q)
   ·exact .inr (.inr (.inr q))
  ·rintro (q | q | q | q)
   ·exact .inl (.inl q)
   ·exact .inr (.inl q)
   ·exact .inl (.inr q)
   ·exact .inr (.inr q)
 ·rcases j6.1 hx with hx | hx
  ·exact I.le x hx y (hy.elim .inl fun q=>.inr (b6 _ q))
  ·simp at hx
   subst hx
   rcases hy with hy | hy
   ·rcases n7.1 hy with rfl | hy
    ·omega
    ·have:=(aAA.1 I.a.rise).1 y hy;omega
   ·exact(aAA.1 I.b.rise).1 y hy
theorem MI.left{A B A' B' O:List (Int×Int)}{a:Int×Int}(I:MI A B (a :: A') B' O)(h:∀ b∈B',a.1<=b.1):MI A B A' B' (O++[a]):=by
 refine⟨pD I.out (pB (I.a.some a (by simp))) (fun x hx y hy=>by simp at hy;subst hy;exact I.le x hx y (.inl (by simp))),qN I.a,I.b,fun c=>?_,fun x hx y hy=>?_,⟨cM I.fit.1 (dE I.fit.2.1 fun z hz=>by simp at hz;subst hz;simp),dE I.fit.2.1 fun z hz=>b6 _ hz,I.fit.2.2⟩,by have:=I.len;simp at *;omega⟩
 ·rw [<- I.mem,bZ,dN,bF a A']
  constructor
  ·rintro ((q | q) | q | q)
   ·exact .inl q
   ·exact .inr (.inl (.inl q))
   ·exact .inr (.inl (.inr q))
   ·exact .inr (.inr q)
  ·rintro (q |(q | q) | q)
   ·exact .inl (.inl q)
   ·exact .inl (.inr q)
   ·exact .inr (.inl q)
   ·exact .inr (.inr q)
 ·rcases j6.1 hx with hx | hx
  ·exact I.le x hx y (hy.elim (fun q=>.inl (b6 _ q)) .inr)
  ·simp at hx
   subst hx
   rcases hy with hy | hy
   ·exact(aAA.1 I.a.rise).1 y hy
   ·exact h y hy
theorem MI.done{A B B' O:List (Int×Int)}(I:MI A B [] B' O):Srt (O++B')/\(∀ c,In (O++B') c↔(In A c\/In B c))/\Fit (O++B')/\(O++B').length<=A.length+B.length:=by
 refine⟨pD I.out I.b fun x hx y hy=>I.le x hx y (.inr hy),fun c=>?_,cM I.fit.1 I.fit.2.2,by have:=I.len;simp at *;omega⟩
 rw [<- I.mem,bZ]
 exact⟨fun q=>q.elim .inl fun q=>.inr (.inr q),fun q=>q.elim .inl fun q=>q.elim (fun q=>absurd q (eX c)) .inr⟩
def nS(w:World)(L:List (Int×Int))(e:Ending)(w':World):Prop:=∃ v S,e=.returned v/\RR w.heap.size w' v S/\Srt S/\Fit S/\(∀ c,In S c↔In L c)/\S.length<=L.length/\Below w.heap.size w w'
theorem ArgR.take{W:World}{g off n cap:Nat}{L:List (Int×Int)}(h:ArgR W (.slice (some ⟨g,off,none⟩) n cap) L){k:Nat}(hk:k<=L.length):ArgR W (.slice (some ⟨g,off,none⟩) k cap) (L.take k):=by
 have hl:(L.take k).length=k:=by simp;omega
 rcases h with⟨p,c,e,rfl,e2⟩ | ⟨g',off',cap',e,h2,h3,h4,h5⟩
 ·simp at hk
  subst hk
  cases e
  exact .inl ⟨_,_,rfl,rfl,fun q=>by cases q⟩
 ·cases e
  refine .inr ⟨g,off,cap,by rw [hl],h2,by omega,h4,fun i r hi=>h5 i r ?_⟩
  rw [List.getElem?_take] at hi
  split at hi
  ·exact hi
  ·cases hi
theorem ArgR.drop{W:World}{g off n cap:Nat}{L:List (Int×Int)}(h:ArgR W (.slice (some ⟨g,off,none⟩) n cap) L){k:Nat}(hk:k<L.length):ArgR W (.slice (some ⟨g,off+k*2,none⟩) (n-k) (cap-k)) (L.drop k):=by
 rcases h with⟨p,c,e,rfl,e2⟩ | ⟨g',off',cap',e,h2,h3,h4,h5⟩
 ·simp at hk
 ·cases e
  refine .inr ⟨g,off+k*2,cap-k,by simp,h2,by simp;omega,by omega,fun i r hi=>?_⟩
  rw [List.getElem?_drop] at hi
  have:=h5 (k+i) r hi
  rw [show off+k*2+2*i=off+2*(k+i) by omega]
  exact this
theorem xD(L:List (Int×Int))(k:Nat)(c:Int):(In (L.take k) c\/In (L.drop k) c)↔In L c:=by rw [<- bZ,u9]
section
attribute [local go_sem] bU
theorem kF{w:World}{v:Value}{L:List (Int×Int)}(h:ArgR w v L)(hF:Fit L)(hn:L.length<=1):Calls Tryz.prog 81 #[v] w (nS w L):=by
 obtain⟨t0,ti,hz0,hz1,hz2⟩:=aW cA
 cases L with
 | nil=>
  obtain⟨q,cap,e,-,-,-⟩:=h.slice
  subst e
  clear h
  go_enter Tryz.func81,Tryz.ntmps81
  go_wp2
  go_ret
  exact⟨_,[],rfl,RR.nil _ _,pC,eE,fun _=>Iff.rfl,o5 _,Below.refl _ _⟩
 | cons r L'=>
  obtain rfl:L'=[]:=n8 (by simpa using hn)
  obtain⟨g,off,cap,rfl,hg,hn1,hm1,x1,x2⟩:=h.cons
  have HF:Hid (Fit [r]):=hF
  clear h hF
  obtain⟨lo,hi⟩:=r
  dsimp only [List.length_nil] at x1 x2 hn1 ⊢
  have W1:Hid (w=w):=rfl
  by_cases hq:lo<=hi
  ·have dq:decide (lo<=hi)=true:=r9 hq
   have HQ:Hid (lo<=hi):=hq
   go_enter Tryz.func81,Tryz.ntmps81
   go_wp2
   refine wx9 ?_
   repeat (go_big_quiet_step (first | exact rfl))
   refine wpQuiet_nil ?_
   intro w7 hw7
   have B7:Hid (Below w.heap.size w w7):=aS hw7
   have c1:=(B7.out.cell (p:=⟨g,off,none⟩) hg).trans x1
   have c2:=(B7.out.cell (p:=⟨g,off+1,none⟩) hg).trans x2
   have hz7:=B7.out.size
   clear hw7 x1 x2
   go_wp2_with (at_builtin;refine wpList_append_own_at _ rfl _ _ 22 rfl w.heap.size 53 t0 (.agg #[.int .i64 0,.int .i64 0]) 2 16 aU ti hz0 hz1 hz2 rfl (by decide) (.slice none 0 0) 0 (aH []) rfl (RR.nil _ _) ⟨w7.heap.size,0,none⟩ 1 1 [.int .i64 lo,.int .i64 hi] rfl rfl (iF _ _ _ _) (by simp [Value.oneCell']) (by unfold maxLen;omega) (by omega) (by simp;omega) ?_;intro v' w6 hown' hgrow _ hblk;obtain⟨g6,cap6,rfl⟩:=aN hown' (u4 _);have A6:Hid (RR w.heap.size w6 (.slice (some ⟨g6,0,none⟩) 1 cap6) [(lo,hi)]):=hown';have B6:Hid (Below w.heap.size w w6):=bX (t:=53) (size:=2) (n:=0) (xs:=[]) (B7.out.alloc hz7 _) (RR.nil _ _) hgrow;clear hown' hgrow hblk)
   go_ret
   exact⟨_,[(lo,hi)],rfl,A6.out,pB HQ.out,HF.out,fun _=>Iff.rfl,o5 _,B6.out⟩
  ·have dq:decide (lo<=hi)=false:=j8 hq
   have HQ:Hid (¬ lo<=hi):=hq
   go_enter Tryz.func81,Tryz.ntmps81
   go_wp2
   refine wx9 ?_
   repeat (go_big_quiet_step (first | exact rfl))
   refine wpQuiet_nil ?_
   intro w7 hw7
   have B7:Hid (Below w.heap.size w w7):=aS hw7
   clear hw7
   go_wp2
   go_ret
   exact⟨_,[],rfl,RR.nil _ _,pC,eE,fun c=>⟨fun q=>absurd q (eX c),fun q=>by rw [dN] at q;have:=HQ.out;simp only at q;omega⟩,by simp,B7.out⟩
theorem qO{w:World}{v:Value}{L:List (Int×Int)}(ih:∀ (w:World) (v:Value) (L':List (Int×Int)),L'.length<L.length->ArgR w v L'->Fit L'->Calls Tryz.prog 81 #[v] w (nS w L'))(h:ArgR w v L)(hF:Fit L)(hn:1<L.length)(hl:L.length+1<=8796093022208):Calls Tryz.prog 81 #[v] w (nS w L):=by
 obtain⟨t0,ti,hz0,hz1,hz2⟩:=aW cA
 obtain⟨q,cap,e,-,hcap,hcells⟩:=h.slice
 subst e
 obtain⟨g,off,rfl,hg,-,-⟩:=hcells 0 _ (b7 (by omega))
 obtain⟨k,hk⟩:∃ k,L.length/2=k:=⟨_,rfl⟩
 have hk1:0<k:=by omega
 have hk2:k<L.length:=by omega
 have IH:Hid (∀ (w:World) (v:Value) (L':List (Int×Int)),L'.length<L.length->ArgR w v L'->Fit L'->Calls Tryz.prog 81 #[v] w (nS w L')):=ih
 have T1:Hid (ArgR w (.slice (some ⟨g,off,none⟩) k cap) (L.take k)/\Fit (L.take k)/\(L.take k).length<L.length):=⟨h.take (by omega),dE hF fun x hx=>aAG hx,by simp;omega⟩
 have T2:Hid (ArgR w (.slice (some ⟨g,off+k*2,none⟩) (L.length-k) (cap-k)) (L.drop k)/\Fit (L.drop k)/\(L.drop k).length<L.length):=⟨h.drop hk2,dE hF fun x hx=>List.mem_of_mem_drop hx,by simp;omega⟩
 have HL:Hid ((L.take k).length+(L.drop k).length=L.length):=aB (by simp;omega)
 have q1:((L.length:Int).tdiv 2)=(k:Int):=by rw [<- hk];simp [Int.tdiv_eq_ediv]
 have q2:IntKind.wrap .i64 ((L.length:Int).tdiv 2)=(k:Int):=by rw [q1,IntKind.wrap_i64];omega
 have n0:((L.length:Int)==0)=false:=beq_false_of_ne (by omega)
 have n1:((L.length:Int)==1)=false:=beq_false_of_ne (by omega)
 have k0:(0:Int)<=(k:Int):=by omega
 have k1:(k:Int)<=(cap:Int):=by omega
 have k2:(k:Int)<=(L.length:Int):=by omega
 have k3:¬ cap=k:=by omega
 clear h hF ih hcells hk
 go_enter Tryz.func81,Tryz.ntmps81
 go_wp2_with first
  |(go_at_call 81;have hx:=X5.out;clear hx;have hih:=IH.out w5 _ _ T2.out.2.2 (T2.out.1.kept X5.out.2.2.2.2.2) T2.out.2.1;(with_reducible refine hih.mono ?_);clear hih;rintro e w6 ⟨v6,B,rfl,h1,h2,h3,h4,h5,h6⟩;obtain⟨qb,cb,rfl⟩:=h1.shape;have X6:Hid (RR w5.heap.size w6 (.slice qb B.length cb) B/\Srt B/\Fit B/\(∀ c,In B c↔In (L.drop k) c)/\B.length<=(L.drop k).length/\Below w5.heap.size w5 w6):=⟨h1,h2,h3,h4,h5,h6⟩;clear h1 h2 h3 h4 h5 h6)
  |(go_at_call 81;have hih:=IH.out w _ _ T1.out.2.2 T1.out.1 T1.out.2.1;(with_reducible refine hih.mono ?_);clear hih;rintro e w5 ⟨v5,A,rfl,h1,h2,h3,h4,h5,h6⟩;obtain⟨qa,ca,rfl⟩:=h1.shape;have X5:Hid (RR w.heap.size w5 (.slice qa A.length ca) A/\Srt A/\Fit A/\(∀ c,In A c↔In (L.take k) c)/\A.length<=(L.take k).length/\Below w.heap.size w w5):=⟨h1,h2,h3,h4,h5,h6⟩;clear h1 h2 h3 h4 h5 h6)
 rename World=>W1
 have ST:Hid (MI A B A B []):=MI.start X5.out.2.1 X6.out.2.1 X5.out.2.2.1 X6.out.2.2.1
 have AA:Hid (ArgR W1 (.slice qa A.length ca) A/\ArgR W1 (.slice qb B.length cb) B):=⟨(X5.out.1.kept X6.out.2.2.2.2.2).arg,X6.out.1.arg⟩
 have hab:A.length+B.length+1<=8796093022208:=by have:=X5.out.2.2.2.2.1;have:=X6.out.2.2.2.2.1;have:=HL.out;omega
 have BW:Hid (Below w.heap.size w W1):=aF X5.out.2.2.2.2.2 X6.out.2.2.2.2.2 lz9
 have HA:Hid (∀ (i:Nat) (r:Int×Int),A[i]?=some r->∃ g off,qa=some ⟨g,off,none⟩/\g<W1.heap.size/\W1.cell? ⟨g,off+2*i,none⟩=some (.int .i64 r.1)/\W1.cell? ⟨g,off+2*i+1,none⟩=some (.int .i64 r.2)):=by
  obtain⟨q',cap',e,-,-,hc⟩:=AA.out.1.slice
  cases e
  exact hc
 have FIN:Hid (∀ O B',MI A B [] B' O->Srt (O++B')/\Fit (O++B')/\(∀ c,In (O++B') c↔In L c)/\(O++B').length<=L.length):=fun O B' I=>by
  obtain⟨m1,m2,m3,m4⟩:=I.done
  refine⟨m1,m3,fun c=>?_,?_⟩
  ·rw [m2,X5.out.2.2.2.1,X6.out.2.2.2.1,xD]
  ·have:=X5.out.2.2.2.2.1;have:=X6.out.2.2.2.2.1;have:=HL.out;omega
 clear q1 q2 k0 k1 k2 k3 n0 n1
 go_loopw [3,5,6] (fun ov bv i wr=>∃ (j:Nat) (B' O:List (Int×Int)),j<=A.length/\i=.int .i64 j/\ArgR W1 bv B'/\RR W1.heap.size wr ov O/\MI A B (A.drop j) B' O/\Below W1.heap.size W1 wr) (fun _ _ i _=>A.length-(intOf i).toNat)
 case atStart=>exact⟨0,B,[],m7 _,rfl,AA.out.2,RR.nil _ _,ST.out,Below.refl _ _⟩
 case round=>
  obtain⟨j,B',O,hj,rfl,hbv,hov,hI,hb⟩:=hrel
  have RB:Hid (ArgR W1 u5 B'):=hbv
  have RO:Hid (RR W1.heap.size wr u3 O):=hov
  have I:Hid (MI A B (A.drop j) B' O):=hI
  have BB:Hid (Below W1.heap.size W1 wr):=hb
  clear hbv hov hI hb
  by_cases hlt:j<A.length
  ·obtain⟨a,ea⟩:∃ r,A[j]?=some r:=⟨_,b7 hlt⟩
   have DR:Hid (A.drop j=a :: A.drop (j+1)):=aB (by obtain⟨h1,h2⟩:=i7.1 ea;rw [u8 h1,h2])
   obtain⟨ga,oa,rfl,hga,xa1,xa2⟩:=HA.out j _ ea
   have I2:Hid (MI A B (a :: A.drop (j+1)) B' O):=aB (by rw [<- DR.out];exact I.out)
   rw [u0] at xa1 xa2
   obtain⟨la,ra⟩:=a
   dsimp only at xa1 xa2
   have XA:Hid (W1.cell? ⟨ga,oa+j*2,none⟩=some (.int .i64 la)/\W1.cell? ⟨ga,oa+j*2+1,none⟩=some (.int .i64 ra)/\ga<W1.heap.size):=⟨xa1,xa2,hga⟩
   have i0:(0:Int)<=(j:Int):=by omega
   have i1:(j:Int)<(A.length:Int):=by omega
   clear xa1 xa2 hga ea
   rename World=>W2
   obtain⟨qq,cc,e5⟩:∃ q c,u5=.slice q B'.length c:=by obtain⟨q,c,e,-⟩:=RB.out.slice;exact⟨q,c,e⟩
   obtain⟨qq3,cc3,e3⟩:=RO.out.shape
   go_wp2
   go_loopw [3,5] (fun ov bv wr=>∃ (B' O:List (Int×Int)),ArgR W1 bv B'/\RR W1.heap.size wr ov O/\MI A B ((la,ra) :: A.drop (j+1)) B' O/\Below W1.heap.size W1 wr) (fun _ bv _=>lP bv)
   case atStart=>exact⟨B',O,RB.out,RO.out,I2.out,BB.out⟩
   case round=>
    clear RB RO I I2 BB e5 e3
    obtain⟨B',O,hbv,hov,hI,hb⟩:=hrel
    obtain⟨qo,co,e3⟩:=hov.shape
    subst e3
    have RO:Hid (RR W1.heap.size wr (.slice qo O.length co) O):=hov
    have I:Hid (MI A B ((la,ra) :: A.drop (j+1)) B' O):=hI
    have BB:Hid (Below W1.heap.size W1 wr):=hb
    have hol:O.length+1<=8796093022208:=by have:=hI.len;simp at this;omega
    have hbs:=hb.size
    have ca1:=(BB.out.cell (p:=⟨ga,oa+j*2,none⟩) XA.out.2.2).trans XA.out.1
    have sa:ga<wr.heap.size:=j2 XA.out.2.2 hbs
    clear hov hI hb
    cases B' with
    | nil=>
     obtain⟨q2,cap2,e2,-,-,-⟩:=hbv.slice
     simp only [List.length_nil] at e2
     subst e2
     have RB:Hid (ArgR W1 (.slice q2 0 cap2) []):=hbv
     have I2:Hid (MI A B (A.drop (j+1)) [] (O++[(la,ra)])):=I.out.left (fun _ h=>by cases h)
     have d0:decide ((0:Int)<0)=false:=by decide
     clear hbv
     go_wp2
     refine wx9 ?_
     repeat (go_big_quiet_step (first | exact rfl))
     refine wpQuiet_nil ?_
     intro w7 hw7
     have B7:Hid (Below W1.heap.size W1 w7):=aF BB.out (aS hw7) lz9
     have R7:Hid (RR W1.heap.size w7 (.slice qo O.length co) O):=RO.out.kept (aS hw7)
     have e1:=(B7.out.cell (p:=⟨ga,oa+j*2,none⟩) XA.out.2.2).trans XA.out.1
     have e2:=(B7.out.cell (p:=⟨ga,oa+j*2+1,none⟩) XA.out.2.2).trans XA.out.2.1
     have hz7:=B7.out.size
     clear hw7 ca1
     go_wp2_with (at_builtin;refine wpList_append_own_at _ rfl _ _ 22 rfl W1.heap.size 53 t0 (.agg #[.int .i64 0,.int .i64 0]) 2 16 aU ti hz0 hz1 hz2 rfl (by decide) (.slice qo O.length co) O.length (aH O) rfl (o8 R7.out (.cells #[.int .i64 la,.int .i64 ra] 53)) ⟨w7.heap.size,0,none⟩ 1 1 [.int .i64 la,.int .i64 ra] rfl rfl (iF _ _ _ _) (by simp [Value.oneCell']) (by unfold maxLen;omega) (by omega) (by simp;omega) ?_;intro v' w6 hown' hgrow _ hblk;obtain⟨g6,cap6,rfl⟩:=aN hown' (u4 _);have A6:Hid (RR W1.heap.size w6 (.slice (some ⟨g6,0,none⟩) (O.length+1) cap6) (O++[(la,ra)])):=lO hown';have B6:Hid (Below W1.heap.size W1 w6):=bX (B7.out.alloc B7.out.size _) (o8 R7.out _) hgrow;clear hown' hgrow hblk)
     go_roundw
     case rel=>exact⟨j+1,[],_,by omega,by go_num,RB.out,A6.out,I2.out,B6.out⟩
     case measure=>simp [intOf];omega
    | cons b B'=>
     obtain⟨g2,o2,cap2,e2,hg2,hn2,hm2,y1,y2⟩:=hbv.cons
     subst e2
     have RB:Hid (ArgR W1 (.slice (some ⟨g2,o2,none⟩) (B'.length+1) cap2) (b :: B')):=hbv
     obtain⟨lb,rb⟩:=b
     dsimp only at y1 y2
     have YB:Hid (W1.cell? ⟨g2,o2,none⟩=some (.int .i64 lb)/\W1.cell? ⟨g2,o2+1,none⟩=some (.int .i64 rb)/\g2<W1.heap.size):=⟨y1,y2,hg2⟩
     have cb1:=(BB.out.cell (p:=⟨g2,o2,none⟩) YB.out.2.2).trans YB.out.1
     have sb:g2<wr.heap.size:=j2 hg2 hbs
     have d1:(0:Int)<(B'.length:Int)+1:=by omega
     have dd:decide ((0:Int)<(B'.length:Int)+1)=true:=r9 d1
     unfold maxLen at hm2
     clear hbv y1 y2 hg2
     by_cases hq:lb<la
     ·have I2:Hid (MI A B ((la,ra) :: A.drop (j+1)) B' (O++[(lb,rb)])):=I.out.right hq
      have dq:decide (lb<la)=true:=r9 hq
      have TT:=RB.out.tail
      by_cases hcap:cap2=1
      ·have T1':Hid (ArgR W1 (.slice (some ⟨g2,o2,none⟩) 0 0) B'):=TT.1 hcap
       have hA0:B'.length=0:=by omega
       subst hcap
       clear TT
       go_wp2
       refine wx9 ?_
       repeat (go_big_quiet_step (first | exact rfl))
       refine wpQuiet_nil ?_
       intro w7 hw7
       have B7:Hid (Below W1.heap.size W1 w7):=aF BB.out (aS hw7) lz9
       have R7:Hid (RR W1.heap.size w7 (.slice qo O.length co) O):=RO.out.kept (aS hw7)
       have e1:=(B7.out.cell (p:=⟨g2,o2,none⟩) YB.out.2.2).trans YB.out.1
       have e2:=(B7.out.cell (p:=⟨g2,o2+1,none⟩) YB.out.2.2).trans YB.out.2.1
       have hz7:=B7.out.size
       clear hw7 ca1 cb1
       go_wp2_with (at_builtin;refine wpList_append_own_at _ rfl _ _ 22 rfl W1.heap.size 53 t0 (.agg #[.int .i64 0,.int .i64 0]) 2 16 aU ti hz0 hz1 hz2 rfl (by decide) (.slice qo O.length co) O.length (aH O) rfl (o8 R7.out (.cells #[.int .i64 lb,.int .i64 rb] 53)) ⟨w7.heap.size,0,none⟩ 1 1 [.int .i64 lb,.int .i64 rb] rfl rfl (iF _ _ _ _) (by simp [Value.oneCell']) (by unfold maxLen;omega) (by omega) (by simp;omega) ?_;intro v' w6 hown' hgrow _ hblk;obtain⟨g6,cap6,rfl⟩:=aN hown' (u4 _);have A6:Hid (RR W1.heap.size w6 (.slice (some ⟨g6,0,none⟩) (O.length+1) cap6) (O++[(lb,rb)])):=lO hown';have B6:Hid (Below W1.heap.size W1 w6):=bX (B7.out.alloc B7.out.size _) (o8 R7.out _) hgrow;clear hown' hgrow hblk)
       go_roundw
       case rel=>exact⟨B',_,T1'.out,A6.out,I2.out,B6.out⟩
       case measure=>simp only [lP];omega
      ·have T1':Hid (ArgR W1 (.slice (some ⟨g2,o2+2,none⟩) B'.length (cap2-1)) B'):=TT.2 hcap
       clear TT
       go_wp2
       refine wx9 ?_
       repeat (go_big_quiet_step (first | exact rfl))
       refine wpQuiet_nil ?_
       intro w7 hw7
       have B7:Hid (Below W1.heap.size W1 w7):=aF BB.out (aS hw7) lz9
       have R7:Hid (RR W1.heap.size w7 (.slice qo O.length co) O):=RO.out.kept (aS hw7)
       have e1:=(B7.out.cell (p:=⟨g2,o2,none⟩) YB.out.2.2).trans YB.out.1
       have e2:=(B7.out.cell (p:=⟨g2,o2+1,none⟩) YB.out.2.2).trans YB.out.2.1
       have hz7:=B7.out.size
       clear hw7 ca1 cb1
       go_wp2_with (at_builtin;refine wpList_append_own_at _ rfl _ _ 22 rfl W1.heap.size 53 t0 (.agg #[.int .i64 0,.int .i64 0]) 2 16 aU ti hz0 hz1 hz2 rfl (by decide) (.slice qo O.length co) O.length (aH O) rfl (o8 R7.out (.cells #[.int .i64 lb,.int .i64 rb] 53)) ⟨w7.heap.size,0,none⟩ 1 1 [.int .i64 lb,.int .i64 rb] rfl rfl (iF _ _ _ _) (by simp [Value.oneCell']) (by unfold maxLen;omega) (by omega) (by simp;omega) ?_;intro v' w6 hown' hgrow _ hblk;obtain⟨g6,cap6,rfl⟩:=aN hown' (u4 _);have A6:Hid (RR W1.heap.size w6 (.slice (some ⟨g6,0,none⟩) (O.length+1) cap6) (O++[(lb,rb)])):=lO hown';have B6:Hid (Below W1.heap.size W1 w6):=bX (B7.out.alloc B7.out.size _) (o8 R7.out _) hgrow;clear hown' hgrow hblk)
       go_roundw
       case rel=>exact⟨B',_,T1'.out,A6.out,I2.out,B6.out⟩
       case measure=>simp only [lP];omega
     ·have I2:Hid (MI A B (A.drop (j+1)) ((lb,rb) :: B') (O++[(la,ra)])):=I.out.left (fun y hy=>by
       rcases n7.1 hy with rfl | hy
       ·simp only;omega
       ·have:=(aAA.1 I.out.b.rise).1 y hy;simp only at this ⊢;omega)
      have dq:decide (lb<la)=false:=j8 hq
      go_wp2
      refine wx9 ?_
      repeat (go_big_quiet_step (first | exact rfl))
      refine wpQuiet_nil ?_
      intro w7 hw7
      have B7:Hid (Below W1.heap.size W1 w7):=aF BB.out (aS hw7) lz9
      have R7:Hid (RR W1.heap.size w7 (.slice qo O.length co) O):=RO.out.kept (aS hw7)
      have e1:=(B7.out.cell (p:=⟨ga,oa+j*2,none⟩) XA.out.2.2).trans XA.out.1
      have e2:=(B7.out.cell (p:=⟨ga,oa+j*2+1,none⟩) XA.out.2.2).trans XA.out.2.1
      have hz7:=B7.out.size
      clear hw7 ca1 cb1
      go_wp2_with (at_builtin;refine wpList_append_own_at _ rfl _ _ 22 rfl W1.heap.size 53 t0 (.agg #[.int .i64 0,.int .i64 0]) 2 16 aU ti hz0 hz1 hz2 rfl (by decide) (.slice qo O.length co) O.length (aH O) rfl (o8 R7.out (.cells #[.int .i64 la,.int .i64 ra] 53)) ⟨w7.heap.size,0,none⟩ 1 1 [.int .i64 la,.int .i64 ra] rfl rfl (iF _ _ _ _) (by simp [Value.oneCell']) (by unfold maxLen;omega) (by omega) (by simp;omega) ?_;intro v' w6 hown' hgrow _ hblk;obtain⟨g6,cap6,rfl⟩:=aN hown' (u4 _);have A6:Hid (RR W1.heap.size w6 (.slice (some ⟨g6,0,none⟩) (O.length+1) cap6) (O++[(la,ra)])):=lO hown';have B6:Hid (Below W1.heap.size W1 w6):=bX (B7.out.alloc B7.out.size _) (o8 R7.out _) hgrow;clear hown' hgrow hblk)
      go_roundw
      case rel=>exact⟨j+1,(lb,rb) :: B',_,by omega,by go_num,RB.out,A6.out,I2.out,B6.out⟩
      case measure=>simp [intOf];omega
  ·have i1:¬ (j:Int)<(A.length:Int):=by omega
   have D0:Hid (A.drop j=[]):=aB (List.drop_of_length_le (by omega))
   have I2:Hid (MI A B [] B' O):=aB (by rw [<- D0.out];exact I.out)
   obtain⟨q2,cap2,e5,-,-,-⟩:=RB.out.slice
   subst e5
   obtain⟨qo,co,e3⟩:=RO.out.shape
   subst e3
   have F:=FIN.out O B' I2.out
   have FF:Hid _:=F
   have hlen:=F.2.2.2
   rw [j3] at hlen
   have hbs:=BB.out.size
   clear F
   cases q2 with
   | none=>
    have e0:Value.slice none B'.length cap2=.slice none 0 0/\B'=[]:=by
     rcases RB.out with⟨p,cap',e,e2,e3⟩ | ⟨g',off',cap',e,_⟩
     ·subst e2
      cases e
      have:=e3 rfl
      subst this
      exact⟨rfl,rfl⟩
     ·cases e
    obtain⟨e1,e2⟩:=e0
    subst e2
    cases e1
    go_wp2_with (at_builtin;refine wpList_append_own_none rfl _ _ 22 rfl W1.heap.size 53 t0 2 aU ti (.slice qo O.length co) O.length (aH O) rfl RO.out rfl ?_)
    go_ret
    refine⟨_,O++[],rfl,?_,FF.out.1,FF.out.2.1,FF.out.2.2.1,FF.out.2.2.2,aF BW.out BB.out lz9⟩
    rw [l9]
    exact RO.out.mono BW.out.size
   | some ad=>
    have NW:Hid (∀ j u,(aH B')[j]?=some u->wr.cell? (ad.add j)=some u):=(RB.out.kept BB.out).news
    go_wp2_with (at_builtin;refine wpList_append_own_at _ rfl _ _ 22 rfl W1.heap.size 53 t0 (.agg #[.int .i64 0,.int .i64 0]) 2 16 aU ti hz0 hz1 hz2 rfl (by decide) (.slice qo O.length co) O.length (aH O) rfl RO.out ad B'.length cap2 (aH B') rfl (bV B') NW.out (eR B') (by unfold maxLen;omega) (by omega) hbs ?_;intro v' w6 hown' hgrow _ hblk;have A6:Hid (RR W1.heap.size w6 v' (O++B')):=kL hown';have B6:Hid (Below W1.heap.size W1 w6):=bX BB.out RO.out hgrow;clear hown' hgrow hblk)
    go_ret
    exact⟨_,O++B',rfl,A6.out.mono BW.out.size,FF.out.1,FF.out.2.1,FF.out.2.2.1,FF.out.2.2.2,aF BW.out B6.out lz9⟩
theorem yS(n:Nat):∀ (w:World) (v:Value) (L:List (Int×Int)),L.length<=n->n+1<=8796093022208->ArgR w v L->Fit L->Calls Tryz.prog 81 #[v] w (nS w L):=by
 induction n with
 | zero=>exact fun w v L hn _ h hF=>kF h hF (by omega)
 | succ n ih=>
  intro w v L hn hl h hF
  by_cases h1:L.length<=1
  ·exact kF h hF h1
  ·exact qO (fun w v L' hL' h' hF'=>ih w v L' (by omega) (by omega) h' hF') h hF (by omega) (by omega)
end
section
attribute [local go_sem] bU
theorem jA{base:Nat}{w:World}{v:Value}{A B:List (Int×Int)}(e:A=B)(h:RR base w v A):RR base w v B:=e ▸ h
theorem iN{w:World}{v:Value}{L:List (Int×Int)}(h:ArgR w v L)(hF:Fit L)(hl:L.length+1<=8796093022208) :
  Calls Tryz.prog 58 #[v] w (oD w (In L) L.length):=by
 obtain⟨t0,ti,hz0,hz1,hz2⟩:=aW cA
 have H:Hid (ArgR w v L/\Fit L):=⟨h,hF⟩
 clear h hF
 go_enter Tryz.func58,Tryz.ntmps58
 go_wp2_with (go_at_call 81;refine(yS L.length w v L lz9 hl H.out.1 H.out.2).mono ?_;rintro e w5 ⟨v5,S,rfl,h1,h2,h3,h4,h5,h6⟩;obtain⟨qs,cs,rfl⟩:=h1.shape;have X5:Hid (RR w.heap.size w5 (.slice qs S.length cs) S/\Srt S/\Fit S/\(∀ c,In S c↔In L c)/\S.length<=L.length/\Below w.heap.size w w5):=⟨h1,h2,h3,h4,h5,h6⟩;clear h1 h2 h3 h4 h5 h6)
 rename World=>W1
 have hsl:=X5.out.2.2.2.2.1
 have HC:Hid (∀ (i:Nat) (r:Int×Int),S[i]?=some r->∃ g off,qs=some ⟨g,off,none⟩/\g<W1.heap.size/\W1.cell? ⟨g,off+2*i,none⟩=some (.int .i64 r.1)/\W1.cell? ⟨g,off+2*i+1,none⟩=some (.int .i64 r.2)):=by
  obtain⟨q',cap',e,-,-,hc⟩:=X5.out.1.arg.slice
  cases e
  exact hc
 have SP:Hid (∀ k,k<=S.length->Cls ((S.take k).foldl bC [])/\Fit ((S.take k).foldl bC [])/\((S.take k).foldl bC []).length<=k/\∀ c,In ((S.take k).foldl bC []) c↔In (S.take k) c):=fun k hk=>by
  have:=jG X5.out.2.1.rise X5.out.2.2.1 k hk
  exact⟨this.1,this.2.1,this.2.2.1,this.2.2.2.1⟩
 go_loopw [3,5] (fun ov i wr=>∃ k:Nat,k<=S.length/\i=.int .i64 k/\RR W1.heap.size wr ov ((S.take k).foldl bC [])/\Below W1.heap.size W1 wr) (fun _ i _=>S.length-(intOf i).toNat)
 case atStart=>exact⟨0,m7 _,rfl,RR.nil _ _,Below.refl _ _⟩
 case round=>
  obtain⟨k,hk,rfl,hrr,hb⟩:=hrel
  have RC:Hid (RR W1.heap.size wr u3 ((S.take k).foldl bC [])):=hrr
  have BB:Hid (Below W1.heap.size W1 wr):=hb
  have hbs:=hb.size
  clear hb hrr
  by_cases hlt:k<S.length
  ·obtain⟨r,hr⟩:∃ r,S[k]?=some r:=⟨_,b7 hlt⟩
   obtain⟨g,off,rfl,hg,x1,x2⟩:=HC.out k _ hr
   rw [u0] at x1 x2
   have NX:Hid ((S.take (k+1)).foldl bC []=bC ((S.take k).foldl bC []) r):=aB (by
    obtain⟨h1,h2⟩:=i7.1 hr
    rw [dI _ _ h1,List.foldl_append,h2];rfl)
   have hne:¬ r.2<r.1:=by have:=X5.out.2.1.some r (i5 hr);omega
   have hfr:=X5.out.2.2.1 r (i5 hr)
   have SPk:=SP.out k hk
   have FC:Hid (Fit ((S.take k).foldl bC [])):=SPk.2.1
   have hcl:=SPk.2.2.1
   obtain⟨lo,hi⟩:=r
   dsimp only at x1 x2 hne hfr
   have XS:Hid (W1.cell? ⟨g,off+k*2,none⟩=some (.int .i64 lo)/\W1.cell? ⟨g,off+k*2+1,none⟩=some (.int .i64 hi)/\g<W1.heap.size):=⟨x1,x2,hg⟩
   have cs1:=(BB.out.cell (p:=⟨g,off+k*2,none⟩) hg).trans x1
   have sg:g<wr.heap.size:=j2 hg hbs
   have i0:(0:Int)<=(k:Int):=by omega
   have i1:(k:Int)<(S.length:Int):=by omega
   clear x1 x2 hr SPk hg
   generalize (S.take k).foldl bC []=C at *
   rcases eO C with e | ⟨D,x,e⟩
   ·subst e
    obtain⟨qo,co,e3⟩:=RC.out.shape
    subst e3
    have LD:Hid ((0:Nat)=0):=rfl
    have NX2:Hid ((S.take (k+1)).foldl bC []=[(lo,hi)]):=aB (by rw [NX.out,gS hne])
    simp only [List.length_nil] at RC ⊢
    have wn:IntKind.wrap .i64 ((0:Int)-1)=-1:=by decide
    have d0:decide ((0:Int)<=-1)=false:=by decide
    ··
      go_wp2
      refine wx9 ?_
      repeat (go_big_quiet_step (first | exact rfl))
      refine wpQuiet_nil ?_
      intro w7 hw7
      have B7:Hid (Below W1.heap.size W1 w7):=aF BB.out (aS hw7) lz9
      have e1:=(B7.out.cell (p:=⟨g,off+k*2,none⟩) XS.out.2.2).trans XS.out.1
      have e2:=(B7.out.cell (p:=⟨g,off+k*2+1,none⟩) XS.out.2.2).trans XS.out.2.1
      have hz7:=B7.out.size
      have R7:Hid (RR W1.heap.size w7 (.slice qo 0 co) []):=RC.out.kept (aS hw7)
      clear hw7 cs1
      go_wp2_with (at_builtin;refine wpList_append_own_at _ rfl _ _ 22 rfl W1.heap.size 53 t0 (.agg #[.int .i64 0,.int .i64 0]) 2 16 aU ti hz0 hz1 hz2 rfl (by decide) (.slice qo 0 co) 0 (aH []) rfl (o8 R7.out (.cells #[.int .i64 lo,.int .i64 hi] 53)) ⟨w7.heap.size,0,none⟩ 1 1 [.int .i64 lo,.int .i64 hi] rfl rfl (iF _ _ _ _) (by simp [Value.oneCell']) (by unfold maxLen;omega) (by omega) (by simp;omega) ?_;intro v' w6 hown' hgrow _ hblk;obtain⟨g6,cap6,rfl⟩:=aN hown' (u4 _);have A6:Hid (RR W1.heap.size w6 (.slice (some ⟨g6,0,none⟩) (0+1) cap6) ([(lo,hi)])):=kL (F:=[]) (L:=[(lo,hi)]) hown';have B6:Hid (Below W1.heap.size W1 w6):=bX (B7.out.alloc hz7 _) (o8 R7.out _) hgrow;clear hown' hgrow hblk)
      go_roundw
      case rel=>exact⟨k+1,by omega,by go_num,jA NX2.out.symm A6.out,B6.out⟩
      case measure=>simp [intOf];omega
   ·subst e
    have fx:=FC.out x (by simp)
    obtain⟨nd,hnd⟩:∃ nd,D.length=nd:=⟨_,rfl⟩
    have LD:Hid (D.length=nd):=hnd
    have OW0:Hid (wr.ownsRow W1.heap.size 53 2 u3 (nd+1) (aH (D++[x]))):=aB (by have:=RC.out;unfold RR at this;rwa [j3,v9,hnd] at this)
    obtain⟨go,co,e3⟩:=aN OW0.out (by omega)
    subst e3
    have OW:Hid (wr.ownsRow W1.heap.size 53 2 (.slice (some ⟨go,0,none⟩) (nd+1) co) (nd+1) (aH (D++[x]))):=OW0.out
    have hgo:go<wr.heap.size:=(aG OW.out rfl).2.1
    have hgb:W1.heap.size<=go:=(aG OW.out rfl).1
    have hcell:=(lR OW.out hnd).2
    rw [j3,v9,hnd] at hcl
    clear RC OW0 hnd
    obtain⟨y,hy⟩:∃ y,x.2=y:=⟨_,rfl⟩
    rw [hy] at hcell fx
    have HY:Hid (x.2=y):=hy
    clear hy
    have wn:IntKind.wrap .i64 ((nd:Int)+1-1)=(nd:Int):=by rw [IntKind.wrap_i64];omega
    have j0:(0:Int)<=(nd:Int):=by omega
    have j1:(nd:Int)<(nd:Int)+1:=by omega
    have d0:decide ((0:Int)<=(nd:Int))=true:=r9 j0
    by_cases hf:y+1<lo
    ·have d1:decide (lo<=y)=false:=j8 (by omega)
     have wl:IntKind.wrap .i64 (lo-1)=lo-1:=by rw [IntKind.wrap_i64];omega
     have d2:(lo-1==y)=false:=beq_false_of_ne (by omega)
     have NX2:Hid ((S.take (k+1)).foldl bC []=D++[x]++[(lo,hi)]):=aB (by rw [NX.out,gT hne (by rw [HY.out];exact hf)])
     ·
      go_wp2
      refine wx9 ?_
      repeat (go_big_quiet_step (first | exact rfl))
      refine wpQuiet_nil ?_
      intro w7 hw7
      have B7:Hid (Below W1.heap.size W1 w7):=aF BB.out (aS hw7) lz9
      have e1:=(B7.out.cell (p:=⟨g,off+k*2,none⟩) XS.out.2.2).trans XS.out.1
      have e2:=(B7.out.cell (p:=⟨g,off+k*2+1,none⟩) XS.out.2.2).trans XS.out.2.1
      have hz7:=B7.out.size
      have R7:Hid (w7.ownsRow W1.heap.size 53 2 (.slice (some ⟨go,0,none⟩) (nd+1) co) (nd+1) (aH (D++[x]))):=aK (S:=fun _=>False) OW.out (Fr.of_below (aS hw7)) (fun _ _ q=>q)
      clear hw7 cs1 hcell
      go_wp2_with (at_builtin;refine wpList_append_own_at _ rfl _ _ 22 rfl W1.heap.size 53 t0 (.agg #[.int .i64 0,.int .i64 0]) 2 16 aU ti hz0 hz1 hz2 rfl (by decide) (.slice (some ⟨go,0,none⟩) (nd+1) co) (nd+1) (aH (D++[x])) rfl (o8 R7.out (.cells #[.int .i64 lo,.int .i64 hi] 53)) ⟨w7.heap.size,0,none⟩ 1 1 [.int .i64 lo,.int .i64 hi] rfl rfl (iF _ _ _ _) (by simp [Value.oneCell']) (by unfold maxLen;omega) (by omega) (by simp;omega) ?_;intro v' w6 hown' hgrow _ hblk;obtain⟨g6,cap6,rfl⟩:=aN hown' (u4 _);have A6:Hid (RR W1.heap.size w6 (.slice (some ⟨g6,0,none⟩) ((nd+1)+1) cap6) (D++[x]++[(lo,hi)])):=kL (F:=(D++[x])) (L:=[(lo,hi)]) hown';have B6:Hid (Below W1.heap.size W1 w6):=bX (B7.out.alloc hz7 _) (o8 R7.out _) hgrow;clear hown' hgrow hblk)
      go_roundw
      case rel=>exact⟨k+1,by omega,by go_num,jA NX2.out.symm A6.out,B6.out⟩
      case measure=>simp [intOf];omega
    ·obtain⟨M,hM⟩:∃ M,max x.2 hi=M:=⟨_,rfl⟩
     have HM:Hid (max x.2 hi=M):=hM
     have hmx:∀ t ty w,(Builtin.max_ t ty #[.int .i64 y,.int .i64 hi]).run Tryz.prog w=.ok (.int .i64 M) w:=fun t ty w=>by rw [kT,<- HY.out,HM.out]
     have NR:Hid (¬ hi<lo->bC (D++[x]) (lo,hi)=D++[(x.1,max x.2 hi)]):=fun q=>fF q (by rw [HY.out];exact hf)
     clear hM
     by_cases hq:lo<=y
     ·have d1:decide (lo<=y)=true:=r9 hq
      have d2:True:=trivial
      go_wp2
      refine wx9 ?_
      repeat (go_big_quiet_step (first | exact rfl))
      refine wpQuiet_nil ?_
      intro w7 hw7
      have B7:Hid (Below W1.heap.size W1 w7):=aF BB.out (aS hw7) lz9
      have e1:=(B7.out.cell (p:=⟨g,off+k*2,none⟩) XS.out.2.2).trans XS.out.1
      have e2:=(B7.out.cell (p:=⟨g,off+k*2+1,none⟩) XS.out.2.2).trans XS.out.2.1
      have hz7:=B7.out.size
      have O7:Hid (w7.drew.ownsRow W1.heap.size 53 2 (.slice (some ⟨go,0,none⟩) (nd+1) co) (nd+1) (aH (D++[x]))):=(aK (S:=fun _=>False) OW.out (Fr.of_below (aS hw7)) (fun _ _ q=>q)).drew
      have c7:=((aS hw7).cell (p:=⟨go,nd*2+1,none⟩) hgo).trans hcell
      have f7:w7.frozen? ⟨go,nd*2+1,none⟩=false:=O7.out.frozenAt (nd*2+1)
      clear hw7 hcell d1 d2
      go_wp2
      go_region_with fail
      all_goals (
       go_wp2
       go_roundw
       case rel=>exact⟨k+1,by omega,by go_num,jA (NX.out.trans (NR.out hne)).symm (by rw [HM.out];exact zI (kH O7.out LD.out M) (by have:=LD.out;simp;omega)),B7.out.drew.setCell (p:=⟨go,nd*2+1,none⟩) hgb _⟩
       case measure=>simp [intOf];omega)
     ·have d1:decide (lo<=y)=false:=j8 hq
      have wl:IntKind.wrap .i64 (lo-1)=lo-1:=by rw [IntKind.wrap_i64];omega
      have d2:(lo-1==y)=true:=by rw [beq_iff_eq];omega
      go_wp2
      refine wx9 ?_
      repeat (go_big_quiet_step (first | exact rfl))
      refine wpQuiet_nil ?_
      intro w7 hw7
      have B7:Hid (Below W1.heap.size W1 w7):=aF BB.out (aS hw7) lz9
      have e1:=(B7.out.cell (p:=⟨g,off+k*2,none⟩) XS.out.2.2).trans XS.out.1
      have e2:=(B7.out.cell (p:=⟨g,off+k*2+1,none⟩) XS.out.2.2).trans XS.out.2.1
      have hz7:=B7.out.size
      have O7:Hid (w7.drew.ownsRow W1.heap.size 53 2 (.slice (some ⟨go,0,none⟩) (nd+1) co) (nd+1) (aH (D++[x]))):=(aK (S:=fun _=>False) OW.out (Fr.of_below (aS hw7)) (fun _ _ q=>q)).drew
      have c7:=((aS hw7).cell (p:=⟨go,nd*2+1,none⟩) hgo).trans hcell
      have f7:w7.frozen? ⟨go,nd*2+1,none⟩=false:=O7.out.frozenAt (nd*2+1)
      clear hw7 hcell d1 d2
      go_wp2
      go_region_with fail
      all_goals (
       go_wp2
       go_roundw
       case rel=>exact⟨k+1,by omega,by go_num,jA (NX.out.trans (NR.out hne)).symm (by rw [HM.out];exact zI (kH O7.out LD.out M) (by have:=LD.out;simp;omega)),B7.out.drew.setCell (p:=⟨go,nd*2+1,none⟩) hgb _⟩
       case measure=>simp [intOf];omega)
  ·have i1:¬ (k:Int)<(S.length:Int):=by omega
   have E:Hid (S.take k=S):=aB (j5 (by omega))
   have SPn:=SP.out k hk
   rw [E.out] at RC SPn
   have SS:Hid _:=SPn
   have hcl:=SPn.2.2.1
   clear SPn
   go_wp2
   go_ret
   exact⟨_,_,rfl,RC.out.mono X5.out.2.2.2.2.2.size,⟨SS.out.1,SS.out.2.1,fun c=>(SS.out.2.2.2 c).trans (X5.out.2.2.2.1 c)⟩,by omega,aF X5.out.2.2.2.2.2 BB.out lz9⟩
end
section
attribute [local go_sem] bU
def dV(A B:List (Int×Int)):List (Int×Int):=A.flatMap fun a=>B.map (dR a)
theorem tI{A B:List (Int×Int)}{i:Nat}{a:Int×Int}(h:A[i]?=some a):dV (A.take (i+1)) B=dV (A.take i) B++B.map (dR a):=by
 obtain⟨hk,rfl⟩:=i7.1 h
 rw [dI A i hk]
 unfold dV
 rw [aAC]
 simp only [s4,List.flatMap_nil,l9]
theorem aA7{B:List (Int×Int)}{j:Nat}{b a:Int×Int}(h:B[j]?=some b):(B.take (j+1)).map (dR a)=(B.take j).map (dR a)++[dR a b]:=by
 obtain⟨hk,rfl⟩:=i7.1 h
 rw [dI B j hk,o4]
 rfl
theorem aB7(A B:List (Int×Int))(c:Int):In (dV A B) c↔In A c/\In B c:=by
 unfold dV In dR
 constructor
 ·rintro ⟨r,hr,h1,h2⟩
  obtain⟨a,ha,hr⟩:=aAF.1 hr
  obtain⟨b,hb,rfl⟩:=m9.1 hr
  simp only at h1 h2
  exact⟨⟨a,ha,by omega,by omega⟩,b,hb,by omega,by omega⟩
 ·rintro ⟨⟨a,ha,h1,h2⟩,b,hb,h3,h4⟩
  exact⟨_,aAF.2 ⟨a,ha,m9.2 ⟨b,hb,rfl⟩⟩,by simp only;omega,by simp only;omega⟩
theorem xH{A B:List (Int×Int)}(fa:Fit A)(fb:Fit B):Fit (dV A B):=fun r hr=>by
 obtain⟨a,ha,hr⟩:=aAF.1 hr
 obtain⟨b,hb,rfl⟩:=m9.1 hr
 have h1:=fa a ha
 have h2:=fb b hb
 simp only [dR]
 omega
theorem kR(A B:List (Int×Int)):(dV A B).length=A.length*B.length:=by
 induction A with
 | nil=>simp [dV]
 | cons a A ih=>simp only [dV,s4,j3,r7,i9,Nat.succ_mul] at *;omega
theorem tC{w:World}{va vb:Value}{A0 B0:List (Int×Int)}(ha:ArgR w va A0)(hb:ArgR w vb B0)(fa:Fit A0)(fb:Fit B0)(hl1:A0.length+1<=8796093022208)(hl2:B0.length+1<=8796093022208)(hl:A0.length*B0.length+1<=8796093022208) :
  Calls Tryz.prog 59 #[va,vb] w (oD w (fun c=>In A0 c/\In B0 c) (A0.length*B0.length)):=by
 obtain⟨t0,ti,hz0,hz1,hz2⟩:=aW cA
 have H:Hid ((ArgR w va A0/\Fit A0)/\ArgR w vb B0/\Fit B0):=⟨⟨ha,fa⟩,hb,fb⟩
 clear ha hb fa fb
 go_enter Tryz.func59,Tryz.ntmps59
 go_upto_region 5 with first
  |(go_at_call 58;have hx:=X5.out;clear hx;have hih:=iN (H.out.2.1.kept X5.out.2.2.2) H.out.2.2 hl2;(with_reducible refine hih.mono ?_);clear hih;rintro e w6 ⟨v6,B,rfl,h1,h2,h3,h4⟩;obtain⟨qb,cb,rfl⟩:=h1.shape;have X6:Hid (RR w5.heap.size w6 (.slice qb B.length cb) B/\IsC B (In B0)/\B.length<=B0.length/\Below w5.heap.size w5 w6):=⟨h1,h2,h3,h4⟩;clear h1 h2 h3 h4)
  |(go_at_call 58;have hih:=iN H.out.1.1 H.out.1.2 hl1;(with_reducible refine hih.mono ?_);clear hih;rintro e w5 ⟨v5,A,rfl,h1,h2,h3,h4⟩;obtain⟨qa,ca,rfl⟩:=h1.shape;have X5:Hid (RR w.heap.size w5 (.slice qa A.length ca) A/\IsC A (In A0)/\A.length<=A0.length/\Below w.heap.size w w5):=⟨h1,h2,h3,h4⟩;clear h1 h2 h3 h4)
 rename World=>W1
 have hla:=X5.out.2.2.1
 have hlb:=X6.out.2.2.1
 have HA:Hid (∀ (i:Nat) (r:Int×Int),A[i]?=some r->∃ g off,qa=some ⟨g,off,none⟩/\g<W1.heap.size/\W1.cell? ⟨g,off+2*i,none⟩=some (.int .i64 r.1)/\W1.cell? ⟨g,off+2*i+1,none⟩=some (.int .i64 r.2)):=by
  obtain⟨q',cap',e,-,-,hc⟩:=(X5.out.1.kept X6.out.2.2.2).arg.slice
  cases e
  exact hc
 have HB:Hid (∀ (i:Nat) (r:Int×Int),B[i]?=some r->∃ g off,qb=some ⟨g,off,none⟩/\g<W1.heap.size/\W1.cell? ⟨g,off+2*i,none⟩=some (.int .i64 r.1)/\W1.cell? ⟨g,off+2*i+1,none⟩=some (.int .i64 r.2)):=by
  obtain⟨q',cap',e,-,-,hc⟩:=X6.out.1.arg.slice
  cases e
  exact hc
 have LP:Hid (∀ i,(dV (A.take i) B).length+B.length*(A.length-i)<=A0.length*B0.length\/A.length<i):=fun i=>by
  rcases Nat.lt_or_ge A.length i with h | h
  ·exact .inr h
  ·left
   rw [kR,o9,Nat.min_eq_left h,u0 B.length,<- Nat.add_mul,Nat.add_sub_cancel' h]
   exact Nat.mul_le_mul hla hlb
 have BW:Hid (Below w.heap.size w W1):=aF X5.out.2.2.2 X6.out.2.2.2 lz9
 go_loopw [7,8] (fun ov i wr=>∃ k:Nat,k<=A.length/\i=.int .i64 k/\RR W1.heap.size wr ov (dV (A.take k) B)/\Below W1.heap.size W1 wr) (fun _ i _=>A.length-(intOf i).toNat)
 case atStart=>exact⟨0,m7 _,rfl,RR.nil _ _,Below.refl _ _⟩
 case round=>
  obtain⟨k,hk,rfl,hrr,hb⟩:=hrel
  have RO:Hid (RR W1.heap.size wr u7 (dV (A.take k) B)):=hrr
  have BB:Hid (Below W1.heap.size W1 wr):=hb
  clear hrr hb
  by_cases hlt:k<A.length
  ·obtain⟨a,ea⟩:∃ r,A[k]?=some r:=⟨_,b7 hlt⟩
   obtain⟨ga,oa,rfl,hga,xa1,xa2⟩:=HA.out k _ ea
   have PN:Hid (dV (A.take (k+1)) B=dV (A.take k) B++B.map (dR a)):=tI ea
   rw [u0] at xa1 xa2
   have XA:Hid (W1.cell? ⟨ga,oa+k*2,none⟩=some (.int .i64 a.1)/\W1.cell? ⟨ga,oa+k*2+1,none⟩=some (.int .i64 a.2)/\ga<W1.heap.size):=⟨xa1,xa2,hga⟩
   have LK:Hid ((dV (A.take k) B).length+B.length+1<=8796093022208):=aB (by
    rcases LP.out (k+1) with h | h
    ·have:=PN.out;rw [this,j3,r7] at h;omega
    ·omega)
   have i0:(0:Int)<=(k:Int):=by omega
   have i1:(k:Int)<(A.length:Int):=by omega
   clear xa1 xa2 hga ea
   rename World=>W2
   generalize dV (A.take k) B=P at *
   go_wp2
   go_loopw [7,9] (fun ov i wr=>∃ j:Nat,j<=B.length/\i=.int .i64 j/\RR W1.heap.size wr ov (P++(B.take j).map (dR a))/\Below W1.heap.size W1 wr) (fun _ i _=>B.length-(intOf i).toNat)
   case atStart=>exact⟨0,m7 _,rfl,by simpa using RO.out,BB.out⟩
   case round=>
    clear RO BB
    obtain⟨j,hj,rfl,hrr,hb⟩:=hrel
    obtain⟨qo,co,e3⟩:=hrr.shape
    subst e3
    obtain⟨O,hO⟩:∃ O,P++(B.take j).map (dR a)=O:=⟨_,rfl⟩
    have EO:Hid (P++(B.take j).map (dR a)=O):=hO
    rw [hO] at hrr ⊢
    have RO:Hid (RR W1.heap.size wr (.slice qo O.length co) O):=hrr
    have BB:Hid (Below W1.heap.size W1 wr):=hb
    have hbs:=hb.size
    have hol:O.length+1<=8796093022208:=by have:=LK.out;rw [<- hO,j3,r7,o9];omega
    clear hrr hb hO
    by_cases hjlt:j<B.length
    ·obtain⟨b,eb⟩:∃ r,B[j]?=some r:=⟨_,b7 hjlt⟩
     obtain⟨gb,ob,rfl,hgb,xb1,xb2⟩:=HB.out j _ eb
     have MN:Hid (P++(B.take (j+1)).map (dR a)=O++[dR a b]):=aB (by rw [aA7 eb,<- j7,EO.out])
     rw [u0] at xb1 xb2
     have c1:=(BB.out.cell (p:=⟨ga,oa+k*2,none⟩) XA.out.2.2).trans XA.out.1
     have c2:=(BB.out.cell (p:=⟨ga,oa+k*2+1,none⟩) XA.out.2.2).trans XA.out.2.1
     have c3:=(BB.out.cell (p:=⟨gb,ob+j*2,none⟩) hgb).trans xb1
     have c4:=(BB.out.cell (p:=⟨gb,ob+j*2+1,none⟩) hgb).trans xb2
     have s1:ga<wr.heap.size:=j2 XA.out.2.2 hbs
     have s2:gb<wr.heap.size:=j2 hgb hbs
     obtain⟨a1,ha1⟩:∃ x,a.1=x:=⟨_,rfl⟩
     obtain⟨a2,ha2⟩:∃ x,a.2=x:=⟨_,rfl⟩
     obtain⟨b1,hb1⟩:∃ x,b.1=x:=⟨_,rfl⟩
     obtain⟨b2,hb2⟩:∃ x,b.2=x:=⟨_,rfl⟩
     rw [ha1] at c1
     rw [ha2] at c2
     rw [hb1] at c3
     rw [hb2] at c4
     obtain⟨cr,hcr⟩:∃ cr,dR a b=cr:=⟨_,rfl⟩
     have hmx:∀ t ty w,(Builtin.max_ t ty #[.int .i64 a1,.int .i64 b1]).run Tryz.prog w=.ok (.int .i64 cr.1) w:=fun t ty w=>by rw [kT,<- hcr,<- ha1,<- hb1];rfl
     have hmn:∀ t ty w,(Builtin.min_ t ty #[.int .i64 a2,.int .i64 b2]).run Tryz.prog w=.ok (.int .i64 cr.2) w:=fun t ty w=>by rw [uV,<- hcr,<- ha2,<- hb2];rfl
     have MN2:Hid (P++(B.take (j+1)).map (dR a)=O++[(cr.1,cr.2)]):=aB (by rw [MN.out,hcr])
     have j0:(0:Int)<=(j:Int):=by omega
     have j1:(j:Int)<(B.length:Int):=by omega
     have RD:Hid (RR W1.heap.size wr.drew (.slice qo O.length co) O):=World.ownsRow.drew RO.out
     have BD:Hid (Below W1.heap.size W1 wr.drew):=BB.out.drew
     have ne1:=World.new_ne wr _ c1
     have ne3:=World.new_ne wr _ c3
     have XK:Hid (W1.cell? ⟨ga,oa+k*2,none⟩=some (.int .i64 a1)/\W1.cell? ⟨ga,oa+k*2+1,none⟩=some (.int .i64 a2)/\W1.cell? ⟨gb,ob+j*2,none⟩=some (.int .i64 b1)/\W1.cell? ⟨gb,ob+j*2+1,none⟩=some (.int .i64 b2)/\gb<W1.heap.size):=⟨by rw [<- ha1];exact XA.out.1,by rw [<- ha2];exact XA.out.2.1,by rw [<- hb1];exact xb1,by rw [<- hb2];exact xb2,hgb⟩
     clear xb1 xb2 eb hgb MN ha1 ha2 hb1 hb2 hcr
     have QC:Hid (∀ w',Below W1.heap.size W1 w'->w'.cell? ⟨ga,oa+k*2,none⟩=some (.int .i64 a1)/\w'.cell? ⟨ga,oa+k*2+1,none⟩=some (.int .i64 a2)/\w'.cell? ⟨gb,ob+j*2,none⟩=some (.int .i64 b1)/\w'.cell? ⟨gb,ob+j*2+1,none⟩=some (.int .i64 b2)):=fun w' hb=>⟨(hb.cell (p:=⟨ga,oa+k*2,none⟩) XA.out.2.2).trans XK.out.1,(hb.cell (p:=⟨ga,oa+k*2+1,none⟩) XA.out.2.2).trans XK.out.2.1,(hb.cell (p:=⟨gb,ob+j*2,none⟩) XK.out.2.2.2.2).trans XK.out.2.2.1,(hb.cell (p:=⟨gb,ob+j*2+1,none⟩) XK.out.2.2.2.2).trans XK.out.2.2.2.1⟩
     clear c1 c2 c3 c4
     go_wp2
     refine wp_region_held_drew (S:=fun w'=>Below W1.heap.size W1 w') (by kernel_rfl) BD.out (fun hHeld=>?_)
     refine wpAnyH_take (i:=0) (oi:=_) (v:=?_) rfl (by kernel_rfl) (by kernel_rfl) (by kernel_rfl) (fun _ _ _ h=>h) (Or.inl ⟨by rfl,?_⟩) (by assumption) ?_
     rotate_left
     ·intro wz hSw;obtain⟨q1,q2,q3,q4⟩:=QC.out wz hSw;clear hSw;go_simp;try with_reducible rfl
     dsimp only [Act.put,i6,g8,g9]
     simp only [f8,i4,i8]
     refine wpAnyH_take (i:=1) (oi:=_) (v:=?_) rfl (by kernel_rfl) (by kernel_rfl) (by kernel_rfl) (fun _ _ _ h=>h) (Or.inl ⟨by rfl,?_⟩) (by assumption) ?_
     rotate_left
     ·intro wz hSw;obtain⟨q1,q2,q3,q4⟩:=QC.out wz hSw;clear hSw;go_simp;try with_reducible rfl
     dsimp only [Act.put,i6,g8,g9]
     simp only [f8,i4,i8]
     refine wpAnyH_take (i:=2) (oi:=_) (v:=?_) rfl (by kernel_rfl) (by kernel_rfl) (by kernel_rfl) (fun _ _ _ h=>h) (Or.inl ⟨by rfl,?_⟩) (by assumption) ?_
     rotate_left
     ·intro wz hSw;obtain⟨q1,q2,q3,q4⟩:=QC.out wz hSw;clear hSw;go_simp;try with_reducible rfl
     dsimp only [Act.put,i6,g8,g9]
     simp only [f8,i4,i8]
     refine wpAnyH_take (i:=3) (oi:=_) (v:=?_) rfl (by kernel_rfl) (by kernel_rfl) (by kernel_rfl) (fun _ _ _ h=>h) (Or.inl ⟨by rfl,?_⟩) (by assumption) ?_
     rotate_left
     ·intro wz hSw;obtain⟨q1,q2,q3,q4⟩:=QC.out wz hSw;clear hSw;go_simp;try with_reducible rfl
     dsimp only [Act.put,i6,g8,g9]
     simp only [f8,i4,i8]
     refine wpAnyH_take (i:=4) (oi:=_) (v:=?_) rfl (by kernel_rfl) (by kernel_rfl) (by kernel_rfl) (fun _ _ _ h=>h) (Or.inl ⟨by rfl,?_⟩) (by assumption) ?_
     rotate_left
     ·intro wz hSw;obtain⟨q1,q2,q3,q4⟩:=QC.out wz hSw;clear hSw;go_simp;try with_reducible rfl
     dsimp only [Act.put,i6,g8,g9]
     simp only [f8,i4,i8]
     refine wpAnyH_take (i:=5) (oi:=_) (v:=?_) rfl (by kernel_rfl) (by kernel_rfl) (by kernel_rfl) (fun _ _ _ h=>h) (Or.inl ⟨by rfl,?_⟩) (by assumption) ?_
     rotate_left
     ·intro wz hSw;obtain⟨q1,q2,q3,q4⟩:=QC.out wz hSw;clear hSw;go_simp;try with_reducible rfl
     dsimp only [Act.put,i6,g8,g9]
     simp only [f8,i4,i8]
     refine wpAnyH_take (i:=6) (oi:=_) (v:=?_) rfl (by kernel_rfl) (by kernel_rfl) (by kernel_rfl) (fun _ _ _ h=>h) (Or.inl ⟨by rfl,?_⟩) (by assumption) ?_
     rotate_left
     ·intro wz hSw;obtain⟨q1,q2,q3,q4⟩:=QC.out wz hSw;clear hSw;go_simp;try with_reducible rfl
     dsimp only [Act.put,i6,g8,g9]
     simp only [f8,i4,i8]
     refine wpAnyH_take (i:=7) (oi:=_) (v:=?_) rfl (by kernel_rfl) (by kernel_rfl) (by kernel_rfl) (fun _ _ _ h=>h) (Or.inl ⟨by rfl,?_⟩) (by assumption) ?_
     rotate_left
     ·intro wz hSw;obtain⟨q1,q2,q3,q4⟩:=QC.out wz hSw;clear hSw;go_simp;try with_reducible rfl
     dsimp only [Act.put,i6,g8,g9]
     simp only [f8,i4,i8]
     refine wpAnyH_take (i:=8) (oi:=_) (v:=?_) rfl (by kernel_rfl) (by kernel_rfl) (by kernel_rfl) (fun _ _ _ h=>h) (Or.inl ⟨by rfl,?_⟩) (by assumption) ?_
     rotate_left
     ·intro wz hSw;obtain⟨q1,q2,q3,q4⟩:=QC.out wz hSw;clear hSw;go_simp;try with_reducible rfl
     dsimp only [Act.put,i6,g8,g9]
     simp only [f8,i4,i8]
     refine wpAnyH_take (i:=9) (oi:=_) (v:=?_) rfl (by kernel_rfl) (by kernel_rfl) (by kernel_rfl) (fun _ _ _ h=>h) (Or.inl ⟨by rfl,?_⟩) (by assumption) ?_
     rotate_left
     ·intro wz hSw;obtain⟨q1,q2,q3,q4⟩:=QC.out wz hSw;clear hSw;go_simp;try with_reducible rfl
     dsimp only [Act.put,i6,g8,g9]
     simp only [f8,i4,i8]
     refine wpAnyH_take (i:=10) (oi:=_) (v:=?_) rfl (by kernel_rfl) (by kernel_rfl) (by kernel_rfl) (fun _ _ _ h=>h) (Or.inl ⟨by rfl,?_⟩) (by assumption) ?_
     rotate_left
     ·intro wz hSw;obtain⟨q1,q2,q3,q4⟩:=QC.out wz hSw;clear hSw;go_simp;try with_reducible rfl
     dsimp only [Act.put,i6,g8,g9]
     simp only [f8,i4,i8]
     refine wpAnyH_take (i:=11) (oi:=_) (v:=?_) rfl (by kernel_rfl) (by kernel_rfl) (by kernel_rfl) (fun _ _ _ h=>h) (Or.inl ⟨by rfl,?_⟩) (by assumption) ?_
     rotate_left
     ·intro wz hSw;obtain⟨q1,q2,q3,q4⟩:=QC.out wz hSw;clear hSw;go_simp;try with_reducible rfl
     dsimp only [Act.put,i6,g8,g9]
     simp only [f8,i4,i8]
     refine wpAnyH_take (i:=12) (oi:=_) (v:=?_) rfl (by kernel_rfl) (by kernel_rfl) (by kernel_rfl) (fun _ _ _ h=>h) (Or.inl ⟨by rfl,?_⟩) (by assumption) ?_
     rotate_left
     ·intro wz hSw;obtain⟨q1,q2,q3,q4⟩:=QC.out wz hSw;clear hSw;go_simp;try with_reducible rfl
     dsimp only [Act.put,i6,g8,g9]
     simp only [f8,i4,i8]
     refine wpAnyH_take (i:=13) (oi:=_) (v:=?_) rfl (by kernel_rfl) (by kernel_rfl) (by kernel_rfl) (fun _ _ _ h=>h) (Or.inl ⟨by rfl,?_⟩) (by assumption) ?_
     rotate_left
     ·intro wz hSw;obtain⟨q1,q2,q3,q4⟩:=QC.out wz hSw;clear hSw;go_simp;try with_reducible rfl
     dsimp only [Act.put,i6,g8,g9]
     simp only [f8,i4,i8]
     refine wpAnyH_take (i:=14) (oi:=_) (v:=?_) rfl (by kernel_rfl) (by kernel_rfl) (by kernel_rfl) (fun _ _ _ h=>h) (Or.inl ⟨by rfl,?_⟩) (by assumption) ?_
     rotate_left
     ·intro wz hSw;obtain⟨q1,q2,q3,q4⟩:=QC.out wz hSw;clear hSw;go_simp;try with_reducible rfl
     dsimp only [Act.put,i6,g8,g9]
     simp only [f8,i4,i8]
     refine wpAnyH_take (i:=15) (oi:=_) (v:=?_) rfl (by kernel_rfl) (by kernel_rfl) (by kernel_rfl) (fun _ _ _ h=>h) (Or.inl ⟨by rfl,?_⟩) (by assumption) ?_
     rotate_left
     ·intro wz hSw;obtain⟨q1,q2,q3,q4⟩:=QC.out wz hSw;clear hSw;go_simp;try with_reducible rfl
     dsimp only [Act.put,i6,g8,g9]
     simp only [f8,i4,i8]
     refine wpAnyH_take (i:=16) (oi:=_) (v:=?_) rfl (by kernel_rfl) (by kernel_rfl) (by kernel_rfl) (fun _ _ _ h=>h) (Or.inl ⟨by rfl,?_⟩) (by assumption) ?_
     rotate_left
     ·intro wz hSw;obtain⟨q1,q2,q3,q4⟩:=QC.out wz hSw;clear hSw;go_simp;try with_reducible rfl
     dsimp only [Act.put,i6,g8,g9]
     simp only [f8,i4,i8]
     refine wpAnyH_take (i:=17) (oi:=_) (v:=?_) rfl (by kernel_rfl) (by kernel_rfl) (by kernel_rfl) (fun _ _ _ h=>h) (Or.inl ⟨by rfl,?_⟩) (by assumption) ?_
     rotate_left
     ·intro wz hSw;obtain⟨q1,q2,q3,q4⟩:=QC.out wz hSw;clear hSw;go_simp;try with_reducible rfl
     dsimp only [Act.put,i6,g8,g9]
     simp only [f8,i4,i8]
     refine wpAnyH_take (i:=18) (oi:=_) (v:=?_) rfl (by kernel_rfl) (by kernel_rfl) (by kernel_rfl) (fun _ _ _ h=>h) (Or.inl ⟨by rfl,?_⟩) (by assumption) ?_
     rotate_left
     ·intro wz hSw;obtain⟨q1,q2,q3,q4⟩:=QC.out wz hSw;clear hSw;go_simp;try with_reducible rfl
     dsimp only [Act.put,i6,g8,g9]
     simp only [f8,i4,i8]
     refine wpAnyH_take (i:=19) (oi:=_) (v:=?_) rfl (by kernel_rfl) (by kernel_rfl) (by kernel_rfl) (fun _ _ _ h=>h) (Or.inl ⟨by rfl,?_⟩) (by assumption) ?_
     rotate_left
     ·intro wz hSw;obtain⟨q1,q2,q3,q4⟩:=QC.out wz hSw;clear hSw;go_simp;try with_reducible rfl
     dsimp only [Act.put,i6,g8,g9]
     simp only [f8,i4,i8]
     refine wpAnyH_take (i:=20) (oi:=_) (v:=?_) rfl (by kernel_rfl) (by kernel_rfl) (by kernel_rfl) (fun _ _ _ h=>h) (Or.inl ⟨by rfl,?_⟩) (by assumption) ?_
     rotate_left
     ·intro wz hSw;obtain⟨q1,q2,q3,q4⟩:=QC.out wz hSw;clear hSw;go_simp;try with_reducible rfl
     dsimp only [Act.put,i6,g8,g9]
     simp only [f8,i4,i8]
     refine wpAnyH_take (i:=21) (oi:=_) (v:=?_) rfl (by kernel_rfl) (by kernel_rfl) (by kernel_rfl) (fun _ _ _ h=>h) (Or.inl ⟨by rfl,?_⟩) (by assumption) ?_
     rotate_left
     ·intro wz hSw;obtain⟨q1,q2,q3,q4⟩:=QC.out wz hSw;clear hSw;go_simp;try with_reducible rfl
     dsimp only [Act.put,i6,g8,g9]
     simp only [f8,i4,i8]
     refine wpAnyH_take (i:=22) (oi:=_) (v:=?_) rfl (by kernel_rfl) (by kernel_rfl) (by kernel_rfl) (fun _ _ _ h=>h) (Or.inl ⟨by rfl,?_⟩) (by assumption) ?_
     rotate_left
     ·intro wz hSw;obtain⟨q1,q2,q3,q4⟩:=QC.out wz hSw;clear hSw;go_simp;try with_reducible rfl
     dsimp only [Act.put,i6,g8,g9]
     simp only [f8,i4,i8]
     refine wpAnyH_take (i:=23) (oi:=_) (v:=?_) rfl (by kernel_rfl) (by kernel_rfl) (by kernel_rfl) (fun _ _ _ h=>h) (Or.inl ⟨by rfl,?_⟩) (by assumption) ?_
     rotate_left
     ·intro wz hSw;obtain⟨q1,q2,q3,q4⟩:=QC.out wz hSw;clear hSw;go_simp;try with_reducible rfl
     dsimp only [Act.put,i6,g8,g9]
     simp only [f8,i4,i8]
     refine wpAnyH_ready (rs:=[24]) (by kernel_rfl) (by simp) ?_
     refine AllReadyH.cons rfl (fun K hK=>?_) AllReadyH.nil
     go_simp
     refine hK.out _ _ (BD.out.alloc (by simp;omega) _) (fun hHeld2=>?_)
     clear hK K
     refine wpAnyH_ready (rs:=[25]) (by kernel_rfl) (by simp) ?_
     refine AllReadyH.cons rfl (fun K hK=>?_) AllReadyH.nil
     refine fH rfl _ _ 22 rfl W1.heap.size 53 t0 (.agg #[.int .i64 0,.int .i64 0]) 2 16 aU ti hz0 hz1 hz2 rfl (by decide) (.slice qo O.length co) O.length (aH O) (by simp [Act.eval]) (o8 RD.out (.cells #[.int .i64 cr.1,.int .i64 cr.2] 53)) ⟨wr.heap.size,0,none⟩ 1 1 [.int .i64 cr.1,.int .i64 cr.2] (by simp [Act.eval]) rfl (iF _ _ _ _) (by simp [Value.oneCell']) (by unfold maxLen;omega) (by omega) (by simp;omega) ?_
     intro v' w6 hown' hgrow hblk
     obtain⟨g6,cap6,rfl⟩:=aN hown' (u4 _)
     have A6:Hid (RR W1.heap.size w6 (.slice (some ⟨g6,0,none⟩) (O.length+1) cap6) (O++[(cr.1,cr.2)])):=lO hown'
     have B6:Hid (Below W1.heap.size W1 w6):=bX (BD.out.alloc (by simp;omega) _) (o8 RD.out _) hgrow
     clear hown' hgrow hblk
     refine hK.out _ _ B6.out (fun hHeld3=>?_)
     clear hK K
     refine wpAnyH_ready (rs:=[26]) (by kernel_rfl) (by simp) ?_
     refine AllReadyH.cons rfl (fun K hK=>?_) AllReadyH.nil
     go_simp
     refine hK.out _ _ B6.out (fun hHeld4=>?_)
     clear hK K
     refine wpAnyH_done (by kernel_rfl) ?_ _
     all_goals (
      go_wp2
      go_roundw
      case rel=>exact⟨j+1,by omega,by go_num,jA MN2.out.symm A6.out,B6.out⟩
      case measure=>simp [intOf];omega)
    ·have j1:¬ (j:Int)<(B.length:Int):=by omega
     have EE:Hid (dV (A.take (k+1)) B=O):=aB (by rw [PN.out,<- EO.out,j5 (by omega)])
     go_wp2
     go_roundw
     case rel=>exact⟨k+1,by omega,by go_num,jA EE.out.symm RO.out,BB.out⟩
     case measure=>simp [intOf];omega
  ·have i1:¬ (k:Int)<(A.length:Int):=by omega
   have E:Hid (A.take k=A):=aB (j5 (by omega))
   rw [E.out] at RO
   have LN:Hid ((dV A B).length<=A0.length*B0.length):=aB (by rw [kR];exact Nat.mul_le_mul hla hlb)
   go_wp2_with (go_at_call 58;refine(iN RO.out.arg (xH X5.out.2.1.fit X6.out.2.1.fit) (by have:=LN.out;omega)).mono ?_;rintro e w7 ⟨v7,C,rfl,h1,h2,h3,h4⟩;have X7:Hid (RR wr.heap.size w7 v7 C/\IsC C (In (dV A B))/\C.length<=(dV A B).length/\Below wr.heap.size wr w7):=⟨h1,h2,h3,h4⟩;clear h1 h2 h3 h4)
   go_ret
   have BZ:=aF BW.out BB.out lz9
   refine⟨_,_,rfl,X7.out.1.mono BZ.size,X7.out.2.1.to fun c=>?_,j4 X7.out.2.2.1 LN.out,aF BZ X7.out.2.2.2 lz9⟩
   rw [aB7,X5.out.2.1.mem,X6.out.2.1.mem]
end
end Go.Proofs.YtlamifbjklpdbaaGreat
