/-
  Parts of the proof.
-/
import Derived.Test.YtdgfpiekjigfnaaGreatDoorHoldsProofA0
import Derived.Test.YtdgfpiekjigfnaaGreatDoorHoldsProofA1
import Derived.Test.YtdgfpiekjigfnaaGreatDoorHoldsProofB17
import Derived.Test.YtdgfpiekjigfnaaGreatDoorHoldsProofB29
import Derived.Test.YtdgfpiekjigfnaaGreatDoorHoldsProofB13
import Derived.Test.YtdgfpiekjigfnaaGreatDoorHoldsProofB14
import Derived.Laws.AppendOwnNone
import Derived.Test.YtdgfpiekjigfnaaGreatDoorHoldsProofB16
import Derived.Test.YtdgfpiekjigfnaaGreatDoorHoldsProofB12
import Derived.Laws.MakeOwn
set_option maxRecDepth 100000
set_option maxHeartbeats 8000000
namespace Go.Proofs.YtdgfpiekjigfnaaGreatDoor
open Go Go.RowKit
theorem bS7(k:Int)(w:World):Calls Tryz.prog 85 #[.I k] w fun e w'=>e=.returned (.bool (cA k))/\w'=w:=by
 have hid:∀ b,cA k=b->Calls Tryz.prog 85 #[.I k] w fun e w'=>e=.returned (.bool b)/\w'=w:=by
  intro b hb;by_cases h2:k=2
  ·have e2:(k==2)=true:=by simpa using h2
   have hB:b=true:=by rw [<- hb];simp [cA,h2]
   subst hB;clear h2 hb;go_enter Tryz.func85,Tryz.ntmps85;go_wp2;go_ret;exact⟨rfl,rfl⟩
  have e2:(k==2)=false:=by simpa using h2
  by_cases h7:k=7
  ·have e7:(k==7)=true:=by simpa using h7
   have hB:b=true:=by rw [<- hb];simp [cA,h7]
   subst hB;clear h2 h7 hb;go_enter Tryz.func85,Tryz.ntmps85;go_wp2;go_ret;exact⟨rfl,rfl⟩
  have e7:(k==7)=false:=by simpa using h7
  by_cases h8:k=8
  ·have e8:(k==8)=true:=by simpa using h8
   have hB:b=true:=by rw [<- hb];simp [cA,h8]
   subst hB;clear h2 h7 h8 hb;go_enter Tryz.func85,Tryz.ntmps85;go_wp2;go_ret;exact⟨rfl,rfl⟩
  have e8:(k==8)=false:=by simpa using h8
  by_cases h9:k=9
  ·have e9:(k==9)=true:=by simpa using h9
   have hB:b=true:=by rw [<- hb];simp [cA,h9]
   subst hB;clear h2 h7 h8 h9 hb;go_enter Tryz.func85,Tryz.ntmps85;go_wp2;go_ret;exact⟨rfl,rfl⟩
  have e9:(k==9)=false:=by simpa using h9
  have hB:b=false:=by rw [<- hb];simp [cA,h2,h7,h8,h9]
  subst hB;clear h2 h7 h8 h9 hb;go_enter Tryz.func85,Tryz.ntmps85;go_wp2;go_ret;exact⟨rfl,rfl⟩
 exact hid _ rfl
theorem bK5(a b:Int)(w:World):Calls Tryz.prog 49 #[.I a,.I b] w fun e w'=>e=.returned (.bool (fI a b))/\w'=w:=by
 have hid:∀ r,fI a b=r->Calls Tryz.prog 49 #[.I a,.I b] w fun e w'=>e=.returned (.bool r)/\w'=w:=by
  intro r hr;by_cases h1:(0:Int)<=a
  case neg=>
   have hB:r=false:=by rw [<- hr];simp [fI];omega
   subst hB;clear hr;go_enter Tryz.func49,Tryz.ntmps49;go_wp2;go_ret;exact⟨rfl,rfl⟩
  by_cases h2:a<=255
  case neg=>
   have hB:r=false:=by rw [<- hr];simp [fI];omega
   subst hB;clear hr;go_enter Tryz.func49,Tryz.ntmps49;go_wp2;go_ret;exact⟨rfl,rfl⟩
  by_cases h3:b=-1
  ·have e3:(b==-1)=true:=by simpa using h3
   have hB:r=true:=by rw [<- hr];simp [fI];omega
   subst hB;clear hr;go_enter Tryz.func49,Tryz.ntmps49;go_wp2;go_ret;exact⟨rfl,rfl⟩
  have e3:(b==-1)=false:=by simpa using h3
  by_cases h4:a<=b
  case neg=>
   have hB:r=false:=by rw [<- hr];simp [fI];omega
   subst hB;clear hr;go_enter Tryz.func49,Tryz.ntmps49;go_wp2;go_ret;exact⟨rfl,rfl⟩
  by_cases h5:b<=255
  case neg=>
   have hB:r=false:=by rw [<- hr];simp [fI];omega
   subst hB;clear hr;go_enter Tryz.func49,Tryz.ntmps49;go_wp2;go_ret;exact⟨rfl,rfl⟩
  have hB:r=true:=by rw [<- hr];simp [fI];omega
  subst hB;clear hr;go_enter Tryz.func49,Tryz.ntmps49;go_wp2;go_ret;exact⟨rfl,rfl⟩
 exact hid _ rfl
theorem aQ5(F:Fl)(w:World):Calls Tryz.prog 45 #[.agg (nDf F),.bool false,.bool false,.bool false,.bool false] w fun e w'=>e=.returned (.bool (decide (F.n=0/\F.mn=0/\F.mx=0/\F.rs.length=0/\F.kl=0)))/\wBl w w':=by
 have N1:BoxN (w.alloc (.cells (nDf F) 25)) w.heap.size F:=aE w _;have B1:Hid (wBl w (w.alloc (.cells (nDf F) 25))):=bz9;obtain⟨c0,c1,c2,c3,c4,c5⟩:=N1.six;simp only [m9] at c1 c2 c3 c4 c5;clear N1;have hid:∀ r,decide (F.n=0/\F.mn=0/\F.mx=0/\F.rs.length=0/\F.kl=0)=r->Calls Tryz.prog 45 #[.agg (nDf F),.bool false,.bool false,.bool false,.bool false] w fun e w'=>e=.returned (.bool r)/\wBl w w':=by
  intro r hr0;by_cases hn:F.n=0
  case neg=>
   have ehn:(F.n==0)=false:=n6.2 (by omega);have hB:r=false:=(by rw [<- hr0];exact t5 (by omega));clear hn;subst hB;clear hr0;go_enter Tryz.func45,Tryz.ntmps45;go_wp2;go_ret;exact⟨rfl,B1.o⟩
  have ehn:(F.n==0)=true:=beq_iff_eq.2 (by omega);have Hhn:=aC hn;clear hn;by_cases hm:F.mn=0
  case neg=>
   have ehm:(F.mn==0)=false:=n6.2 (by omega);have hB:r=false:=(by rw [<- hr0];exact t5 (by omega));clear hm;subst hB;clear hr0;go_enter Tryz.func45,Tryz.ntmps45;go_wp2;go_ret;exact⟨rfl,B1.o⟩
  have ehm:(F.mn==0)=true:=beq_iff_eq.2 (by omega);have Hhm:=aC hm;clear hm;by_cases hx:F.mx=0
  case neg=>
   have ehx:(F.mx==0)=false:=n6.2 (by omega);have hB:r=false:=(by rw [<- hr0];exact t5 (by omega));clear hx;subst hB;clear hr0;go_enter Tryz.func45,Tryz.ntmps45;go_wp2;go_ret;exact⟨rfl,B1.o⟩
  have ehx:(F.mx==0)=true:=beq_iff_eq.2 (by omega);have Hhx:=aC hx;clear hx;by_cases hr:F.rs.length=0
  case neg=>
   have ehr:((F.rs.length:Int)==0)=false:=n6.2 (by omega);have hB:r=false:=(by rw [<- hr0];exact t5 (by omega));clear hr;subst hB;clear hr0;go_enter Tryz.func45,Tryz.ntmps45;go_wp2;go_ret;exact⟨rfl,B1.o⟩
  have ehr:((F.rs.length:Int)==0)=true:=beq_iff_eq.2 (by omega);have Hhr:=aC hr;clear hr;by_cases hk:F.kl=0
  case neg=>
   have ehk:((F.kl:Int)==0)=false:=n6.2 (by omega);have hB:r=false:=(by rw [<- hr0];exact t5 (by omega));clear hk;subst hB;clear hr0;go_enter Tryz.func45,Tryz.ntmps45;go_wp2;go_ret;exact⟨rfl,B1.o⟩
  have ehk:((F.kl:Int)==0)=true:=beq_iff_eq.2 (by omega);have Hhk:=aC hk;clear hk;have hB:r=true:=by rw [<- hr0];exact aAR (by have:=Hhn.o;have:=Hhm.o;have:=Hhx.o;have:=Hhr.o;have:=Hhk.o;omega)
  subst hB;clear hr0;go_enter Tryz.func45,Tryz.ntmps45;go_wp2;go_ret;exact⟨rfl,B1.o⟩
 exact hid _ rfl
theorem aQ3(F:Fl)(w:World):Calls Tryz.prog 45 #[.agg (nDf F),.bool false,.bool false,.bool true,.bool false] w fun e w'=>e=.returned (.bool (decide (F.n=0/\F.mn=0/\F.mx=0/\F.kl=0)))/\wBl w w':=by
 have N1:BoxN (w.alloc (.cells (nDf F) 25)) w.heap.size F:=aE w _;have B1:Hid (wBl w (w.alloc (.cells (nDf F) 25))):=bz9;obtain⟨c0,c1,c2,c3,c4,c5⟩:=N1.six;simp only [m9] at c1 c2 c3 c4 c5;clear N1;have hid:∀ r,decide (F.n=0/\F.mn=0/\F.mx=0/\F.kl=0)=r->Calls Tryz.prog 45 #[.agg (nDf F),.bool false,.bool false,.bool true,.bool false] w fun e w'=>e=.returned (.bool r)/\wBl w w':=by
  intro r hr0;by_cases hn:F.n=0
  case neg=>
   have ehn:(F.n==0)=false:=n6.2 (by omega);have hB:r=false:=(by rw [<- hr0];exact t5 (by omega));clear hn;subst hB;clear hr0;go_enter Tryz.func45,Tryz.ntmps45;go_wp2;go_ret;exact⟨rfl,B1.o⟩
  have ehn:(F.n==0)=true:=beq_iff_eq.2 (by omega);have Hhn:=aC hn;clear hn;by_cases hm:F.mn=0
  case neg=>
   have ehm:(F.mn==0)=false:=n6.2 (by omega);have hB:r=false:=(by rw [<- hr0];exact t5 (by omega));clear hm;subst hB;clear hr0;go_enter Tryz.func45,Tryz.ntmps45;go_wp2;go_ret;exact⟨rfl,B1.o⟩
  have ehm:(F.mn==0)=true:=beq_iff_eq.2 (by omega);have Hhm:=aC hm;clear hm;by_cases hx:F.mx=0
  case neg=>
   have ehx:(F.mx==0)=false:=n6.2 (by omega);have hB:r=false:=(by rw [<- hr0];exact t5 (by omega));clear hx;subst hB;clear hr0;go_enter Tryz.func45,Tryz.ntmps45;go_wp2;go_ret;exact⟨rfl,B1.o⟩
  have ehx:(F.mx==0)=true:=beq_iff_eq.2 (by omega);have Hhx:=aC hx;clear hx;by_cases hk:F.kl=0
  case neg=>
   have ehk:((F.kl:Int)==0)=false:=n6.2 (by omega);have hB:r=false:=(by rw [<- hr0];exact t5 (by omega));clear hk;subst hB;clear hr0;go_enter Tryz.func45,Tryz.ntmps45;go_wp2;go_ret;exact⟨rfl,B1.o⟩
  have ehk:((F.kl:Int)==0)=true:=beq_iff_eq.2 (by omega);have Hhk:=aC hk;clear hk;have hB:r=true:=by rw [<- hr0];exact aAR (by have:=Hhn.o;have:=Hhm.o;have:=Hhx.o;have:=Hhk.o;omega)
  subst hB;clear hr0;go_enter Tryz.func45,Tryz.ntmps45;go_wp2;go_ret;exact⟨rfl,B1.o⟩
 exact hid _ rfl
theorem aQ4(F:Fl)(w:World):Calls Tryz.prog 45 #[.agg (nDf F),.bool false,.bool false,.bool false,.bool true] w fun e w'=>e=.returned (.bool (decide (F.n=0/\F.mn=0/\F.mx=0/\F.rs.length=0)))/\wBl w w':=by
 have N1:BoxN (w.alloc (.cells (nDf F) 25)) w.heap.size F:=aE w _;have B1:Hid (wBl w (w.alloc (.cells (nDf F) 25))):=bz9;obtain⟨c0,c1,c2,c3,c4,c5⟩:=N1.six;simp only [m9] at c1 c2 c3 c4 c5;clear N1;have hid:∀ r,decide (F.n=0/\F.mn=0/\F.mx=0/\F.rs.length=0)=r->Calls Tryz.prog 45 #[.agg (nDf F),.bool false,.bool false,.bool false,.bool true] w fun e w'=>e=.returned (.bool r)/\wBl w w':=by
  intro r hr0;by_cases hn:F.n=0
  case neg=>
   have ehn:(F.n==0)=false:=n6.2 (by omega);have hB:r=false:=(by rw [<- hr0];exact t5 (by omega));clear hn;subst hB;clear hr0;go_enter Tryz.func45,Tryz.ntmps45;go_wp2;go_ret;exact⟨rfl,B1.o⟩
  have ehn:(F.n==0)=true:=beq_iff_eq.2 (by omega);have Hhn:=aC hn;clear hn;by_cases hm:F.mn=0
  case neg=>
   have ehm:(F.mn==0)=false:=n6.2 (by omega);have hB:r=false:=(by rw [<- hr0];exact t5 (by omega));clear hm;subst hB;clear hr0;go_enter Tryz.func45,Tryz.ntmps45;go_wp2;go_ret;exact⟨rfl,B1.o⟩
  have ehm:(F.mn==0)=true:=beq_iff_eq.2 (by omega);have Hhm:=aC hm;clear hm;by_cases hx:F.mx=0
  case neg=>
   have ehx:(F.mx==0)=false:=n6.2 (by omega);have hB:r=false:=(by rw [<- hr0];exact t5 (by omega));clear hx;subst hB;clear hr0;go_enter Tryz.func45,Tryz.ntmps45;go_wp2;go_ret;exact⟨rfl,B1.o⟩
  have ehx:(F.mx==0)=true:=beq_iff_eq.2 (by omega);have Hhx:=aC hx;clear hx;by_cases hr:F.rs.length=0
  case neg=>
   have ehr:((F.rs.length:Int)==0)=false:=n6.2 (by omega);have hB:r=false:=(by rw [<- hr0];exact t5 (by omega));clear hr;subst hB;clear hr0;go_enter Tryz.func45,Tryz.ntmps45;go_wp2;go_ret;exact⟨rfl,B1.o⟩
  have ehr:((F.rs.length:Int)==0)=true:=beq_iff_eq.2 (by omega);have Hhr:=aC hr;clear hr;have hB:r=true:=by rw [<- hr0];exact aAR (by have:=Hhn.o;have:=Hhm.o;have:=Hhx.o;have:=Hhr.o;omega)
  subst hB;clear hr0;go_enter Tryz.func45,Tryz.ntmps45;go_wp2;go_ret;exact⟨rfl,B1.o⟩
 exact hid _ rfl
theorem aQ0(F:Fl)(w:World):Calls Tryz.prog 45 #[.agg (nDf F),.bool true,.bool false,.bool false,.bool true] w fun e w'=>e=.returned (.bool (decide (F.mn=0/\F.mx=0/\F.rs.length=0)))/\wBl w w':=by
 have N1:BoxN (w.alloc (.cells (nDf F) 25)) w.heap.size F:=aE w _;have B1:Hid (wBl w (w.alloc (.cells (nDf F) 25))):=bz9;obtain⟨c0,c1,c2,c3,c4,c5⟩:=N1.six;simp only [m9] at c1 c2 c3 c4 c5;clear N1;have hid:∀ r,decide (F.mn=0/\F.mx=0/\F.rs.length=0)=r->Calls Tryz.prog 45 #[.agg (nDf F),.bool true,.bool false,.bool false,.bool true] w fun e w'=>e=.returned (.bool r)/\wBl w w':=by
  intro r hr0;by_cases hm:F.mn=0
  case neg=>
   have ehm:(F.mn==0)=false:=n6.2 (by omega);have hB:r=false:=(by rw [<- hr0];exact t5 (by omega));clear hm;subst hB;clear hr0;go_enter Tryz.func45,Tryz.ntmps45;go_wp2;go_ret;exact⟨rfl,B1.o⟩
  have ehm:(F.mn==0)=true:=beq_iff_eq.2 (by omega);have Hhm:=aC hm;clear hm;by_cases hx:F.mx=0
  case neg=>
   have ehx:(F.mx==0)=false:=n6.2 (by omega);have hB:r=false:=(by rw [<- hr0];exact t5 (by omega));clear hx;subst hB;clear hr0;go_enter Tryz.func45,Tryz.ntmps45;go_wp2;go_ret;exact⟨rfl,B1.o⟩
  have ehx:(F.mx==0)=true:=beq_iff_eq.2 (by omega);have Hhx:=aC hx;clear hx;by_cases hr:F.rs.length=0
  case neg=>
   have ehr:((F.rs.length:Int)==0)=false:=n6.2 (by omega);have hB:r=false:=(by rw [<- hr0];exact t5 (by omega));clear hr;subst hB;clear hr0;go_enter Tryz.func45,Tryz.ntmps45;go_wp2;go_ret;exact⟨rfl,B1.o⟩
  have ehr:((F.rs.length:Int)==0)=true:=beq_iff_eq.2 (by omega);have Hhr:=aC hr;clear hr;have hB:r=true:=by rw [<- hr0];exact aAR (by have:=Hhm.o;have:=Hhx.o;have:=Hhr.o;omega)
  subst hB;clear hr0;go_enter Tryz.func45,Tryz.ntmps45;go_wp2;go_ret;exact⟨rfl,B1.o⟩
 exact hid _ rfl
theorem aQ1(F:Fl)(w:World):Calls Tryz.prog 45 #[.agg (nDf F),.bool true,.bool false,.bool false,.bool false] w fun e w'=>e=.returned (.bool (decide (F.mn=0/\F.mx=0/\F.rs.length=0/\F.kl=0)))/\wBl w w':=by
 have N1:BoxN (w.alloc (.cells (nDf F) 25)) w.heap.size F:=aE w _;have B1:Hid (wBl w (w.alloc (.cells (nDf F) 25))):=bz9;obtain⟨c0,c1,c2,c3,c4,c5⟩:=N1.six;simp only [m9] at c1 c2 c3 c4 c5;clear N1;have hid:∀ r,decide (F.mn=0/\F.mx=0/\F.rs.length=0/\F.kl=0)=r->Calls Tryz.prog 45 #[.agg (nDf F),.bool true,.bool false,.bool false,.bool false] w fun e w'=>e=.returned (.bool r)/\wBl w w':=by
  intro r hr0;by_cases hm:F.mn=0
  case neg=>
   have ehm:(F.mn==0)=false:=n6.2 (by omega);have hB:r=false:=(by rw [<- hr0];exact t5 (by omega));clear hm;subst hB;clear hr0;go_enter Tryz.func45,Tryz.ntmps45;go_wp2;go_ret;exact⟨rfl,B1.o⟩
  have ehm:(F.mn==0)=true:=beq_iff_eq.2 (by omega);have Hhm:=aC hm;clear hm;by_cases hx:F.mx=0
  case neg=>
   have ehx:(F.mx==0)=false:=n6.2 (by omega);have hB:r=false:=(by rw [<- hr0];exact t5 (by omega));clear hx;subst hB;clear hr0;go_enter Tryz.func45,Tryz.ntmps45;go_wp2;go_ret;exact⟨rfl,B1.o⟩
  have ehx:(F.mx==0)=true:=beq_iff_eq.2 (by omega);have Hhx:=aC hx;clear hx;by_cases hr:F.rs.length=0
  case neg=>
   have ehr:((F.rs.length:Int)==0)=false:=n6.2 (by omega);have hB:r=false:=(by rw [<- hr0];exact t5 (by omega));clear hr;subst hB;clear hr0;go_enter Tryz.func45,Tryz.ntmps45;go_wp2;go_ret;exact⟨rfl,B1.o⟩
  have ehr:((F.rs.length:Int)==0)=true:=beq_iff_eq.2 (by omega);have Hhr:=aC hr;clear hr;by_cases hk:F.kl=0
  case neg=>
   have ehk:((F.kl:Int)==0)=false:=n6.2 (by omega);have hB:r=false:=(by rw [<- hr0];exact t5 (by omega));clear hk;subst hB;clear hr0;go_enter Tryz.func45,Tryz.ntmps45;go_wp2;go_ret;exact⟨rfl,B1.o⟩
  have ehk:((F.kl:Int)==0)=true:=beq_iff_eq.2 (by omega);have Hhk:=aC hk;clear hk;have hB:r=true:=by rw [<- hr0];exact aAR (by have:=Hhm.o;have:=Hhx.o;have:=Hhr.o;have:=Hhk.o;omega)
  subst hB;clear hr0;go_enter Tryz.func45,Tryz.ntmps45;go_wp2;go_ret;exact⟨rfl,B1.o⟩
 exact hid _ rfl
theorem aQ2(F:Fl)(w:World):Calls Tryz.prog 45 #[.agg (nDf F),.bool false,.bool true,.bool false,.bool true] w fun e w'=>e=.returned (.bool (decide (F.n=0/\F.rs.length=0)))/\wBl w w':=by
 have N1:BoxN (w.alloc (.cells (nDf F) 25)) w.heap.size F:=aE w _;have B1:Hid (wBl w (w.alloc (.cells (nDf F) 25))):=bz9;obtain⟨c0,c1,c2,c3,c4,c5⟩:=N1.six;simp only [m9] at c1 c2 c3 c4 c5;clear N1;have hid:∀ r,decide (F.n=0/\F.rs.length=0)=r->Calls Tryz.prog 45 #[.agg (nDf F),.bool false,.bool true,.bool false,.bool true] w fun e w'=>e=.returned (.bool r)/\wBl w w':=by
  intro r hr0;by_cases hn:F.n=0
  case neg=>
   have ehn:(F.n==0)=false:=n6.2 (by omega);have hB:r=false:=(by rw [<- hr0];exact t5 (by omega));clear hn;subst hB;clear hr0;go_enter Tryz.func45,Tryz.ntmps45;go_wp2;go_ret;exact⟨rfl,B1.o⟩
  have ehn:(F.n==0)=true:=beq_iff_eq.2 (by omega);have Hhn:=aC hn;clear hn;by_cases hr:F.rs.length=0
  case neg=>
   have ehr:((F.rs.length:Int)==0)=false:=n6.2 (by omega);have hB:r=false:=(by rw [<- hr0];exact t5 (by omega));clear hr;subst hB;clear hr0;go_enter Tryz.func45,Tryz.ntmps45;go_wp2;go_ret;exact⟨rfl,B1.o⟩
  have ehr:((F.rs.length:Int)==0)=true:=beq_iff_eq.2 (by omega);have Hhr:=aC hr;clear hr;have hB:r=true:=by rw [<- hr0];exact aAR (by have:=Hhn.o;have:=Hhr.o;omega)
  subst hB;clear hr0;go_enter Tryz.func45,Tryz.ntmps45;go_wp2;go_ret;exact⟨rfl,B1.o⟩
 exact hid _ rfl
theorem bJ5(p:Way)(t:Tr)(o:Nat)(w:World):Calls Tryz.prog 44 #[.agg #[.I t.f.k,.I t.f.n,.I t.f.mn,.I t.f.mx,.slice t.f.rq t.f.rs.length t.f.rc,.slice t.f.kq t.f.kl t.f.kc,.I ((p.length:Int)+1),.I (arP p),.bool (fiP p),.bool (laP p),.bool (brP p),.I (o:Int)]] w fun e w'=>e=.returned (.bool (mB p t.f.k))/\wBl w w':=by
 have N1:(w.alloc (.cells #[.I t.f.k,.I t.f.n,.I t.f.mn,.I t.f.mx,.slice t.f.rq t.f.rs.length t.f.rc,.slice t.f.kq t.f.kl t.f.kc,.I ((p.length:Int)+1),.I (arP p),.bool (fiP p),.bool (laP p),.bool (brP p),.I (o:Int)] 62)).heap[w.heap.size]?=some (.cells #[.I t.f.k,.I t.f.n,.I t.f.mn,.I t.f.mx,.slice t.f.rq t.f.rs.length t.f.rc,.slice t.f.kq t.f.kl t.f.kc,.I ((p.length:Int)+1),.I (arP p),.bool (fiP p),.bool (laP p),.bool (brP p),.I (o:Int)] 62 (0,0)):=aE w _;have B1:Hid (wBl w (w.alloc (.cells #[.I t.f.k,.I t.f.n,.I t.f.mn,.I t.f.mx,.slice t.f.rq t.f.rs.length t.f.rc,.slice t.f.kq t.f.kl t.f.kc,.I ((p.length:Int)+1),.I (arP p),.bool (fiP p),.bool (laP p),.bool (brP p),.I (o:Int)] 62))):=bz9;have hid:∀ (k ar:Int) (fi la br:Bool) (r:Bool),(if ar=5 then (if k=3 then br && fi else if k=4 then br && la else cA k) else if ar=9 then cA k else if ar=6 then k != 6 else true)=r->(w.alloc (.cells #[.I t.f.k,.I t.f.n,.I t.f.mn,.I t.f.mx,.slice t.f.rq t.f.rs.length t.f.rc,.slice t.f.kq t.f.kl t.f.kc,.I ((p.length:Int)+1),.I (arP p),.bool (fiP p),.bool (laP p),.bool (brP p),.I (o:Int)] 62)).cell? ⟨w.heap.size,0,none⟩=some (.I k)->(w.alloc (.cells #[.I t.f.k,.I t.f.n,.I t.f.mn,.I t.f.mx,.slice t.f.rq t.f.rs.length t.f.rc,.slice t.f.kq t.f.kl t.f.kc,.I ((p.length:Int)+1),.I (arP p),.bool (fiP p),.bool (laP p),.bool (brP p),.I (o:Int)] 62)).cell? ⟨w.heap.size,7,none⟩=some (.I ar)->(w.alloc (.cells #[.I t.f.k,.I t.f.n,.I t.f.mn,.I t.f.mx,.slice t.f.rq t.f.rs.length t.f.rc,.slice t.f.kq t.f.kl t.f.kc,.I ((p.length:Int)+1),.I (arP p),.bool (fiP p),.bool (laP p),.bool (brP p),.I (o:Int)] 62)).cell? ⟨w.heap.size,8,none⟩=some (.bool fi)->(w.alloc (.cells #[.I t.f.k,.I t.f.n,.I t.f.mn,.I t.f.mx,.slice t.f.rq t.f.rs.length t.f.rc,.slice t.f.kq t.f.kl t.f.kc,.I ((p.length:Int)+1),.I (arP p),.bool (fiP p),.bool (laP p),.bool (brP p),.I (o:Int)] 62)).cell? ⟨w.heap.size,9,none⟩=some (.bool la)->(w.alloc (.cells #[.I t.f.k,.I t.f.n,.I t.f.mn,.I t.f.mx,.slice t.f.rq t.f.rs.length t.f.rc,.slice t.f.kq t.f.kl t.f.kc,.I ((p.length:Int)+1),.I (arP p),.bool (fiP p),.bool (laP p),.bool (brP p),.I (o:Int)] 62)).cell? ⟨w.heap.size,10,none⟩=some (.bool br)->Calls Tryz.prog 44 #[.agg #[.I t.f.k,.I t.f.n,.I t.f.mn,.I t.f.mx,.slice t.f.rq t.f.rs.length t.f.rc,.slice t.f.kq t.f.kl t.f.kc,.I ((p.length:Int)+1),.I (arP p),.bool (fiP p),.bool (laP p),.bool (brP p),.I (o:Int)]] w fun e w'=>e=.returned (.bool r)/\wBl w w':=by
  intro k ar fi la br r hr x0 x7 x8 x9 x10;have TH:=aC (fun W=>bS7 k W);obtain⟨th,hth⟩:∃ th,cA k=th:=⟨_,rfl⟩;rw [hth] at TH hr;clear N1 hth;by_cases a5:ar=5
  ·by_cases k3:k=3
   ·have e5:(ar==5)=true:=by simpa using a5
    have e3:(k==3)=true:=(by simpa using k3);rw [if_pos a5,if_pos k3] at hr;clear a5 k3;cases br <;> cases fi
    all_goals (subst hr;go_enter Tryz.func44,Tryz.ntmps44;go_wp2_with (go_at_call 85;(with_reducible refine(TH.o _).mono ?_);rintro e w5 ⟨rfl,h5⟩;subst w5);go_ret;exact⟨rfl,B1.o⟩)
   by_cases k4:k=4
   ·have e5:(ar==5)=true:=by simpa using a5
    have e3:(k==3)=false:=(by simpa using k3);have e4:(k==4)=true:=(by simpa using k4);rw [if_pos a5,if_neg k3,if_pos k4] at hr;clear a5 k3 k4;cases br <;> cases la
    all_goals (subst hr;go_enter Tryz.func44,Tryz.ntmps44;go_wp2_with (go_at_call 85;(with_reducible refine(TH.o _).mono ?_);rintro e w5 ⟨rfl,h5⟩;subst w5);go_ret;exact⟨rfl,B1.o⟩)
   have e5:(ar==5)=true:=by simpa using a5
   have e3:(k==3)=false:=by simpa using k3
   have e4:(k==4)=false:=by simpa using k4
   rw [if_pos a5,if_neg k3,if_neg k4] at hr;clear a5 k3 k4;subst hr;go_enter Tryz.func44,Tryz.ntmps44;go_wp2_with (go_at_call 85;(with_reducible refine(TH.o _).mono ?_);rintro e w5 ⟨rfl,h5⟩;subst w5)
   go_ret;exact⟨rfl,B1.o⟩
  have e5:(ar==5)=false:=by simpa using a5
  rw [if_neg a5] at hr;by_cases a9:ar=9
  ·have e9:(ar==9)=true:=by simpa using a9
   rw [if_pos a9] at hr;clear a5 a9;subst hr;go_enter Tryz.func44,Tryz.ntmps44;go_wp2_with (go_at_call 85;(with_reducible refine(TH.o _).mono ?_);rintro e w5 ⟨rfl,h5⟩;subst w5)
   go_ret;exact⟨rfl,B1.o⟩
  have e9:(ar==9)=false:=by simpa using a9
  rw [if_neg a9] at hr;by_cases a6:ar=6
  ·have e6:(ar==6)=true:=by simpa using a6
   rw [if_pos a6] at hr;clear a5 a9 a6;subst hr;go_enter Tryz.func44,Tryz.ntmps44;go_wp2_with (go_at_call 85;(with_reducible refine(TH.o _).mono ?_);rintro e w5 ⟨rfl,h5⟩;subst w5)
   go_ret;exact⟨rfl,B1.o⟩
  have e6:(ar==6)=false:=by simpa using a6
  rw [if_neg a6] at hr;clear a5 a9 a6;subst hr;go_enter Tryz.func44,Tryz.ntmps44;go_wp2_with (go_at_call 85;(with_reducible refine(TH.o _).mono ?_);rintro e w5 ⟨rfl,h5⟩;subst w5)
  go_ret;exact⟨rfl,B1.o⟩
 exact hid t.f.k (arP p) (fiP p) (laP p) (brP p) _ rfl (aA N1 (i:=0) rfl) (aA N1 (i:=7) rfl) (aA N1 (i:=8) rfl) (aA N1 (i:=9) rfl) (aA N1 (i:=10) rfl)
structure Srt(S:lIi):Prop where
 some:∀ r∈S,r.1<=r.2
 rise:S.Pairwise (fun a b=>a.1<=b.1)
theorem wK:Srt []:=⟨fun _ h=>(by cases h),List.Pairwise.nil⟩
theorem yL{r:Int × Int}{L:lIi}(h:Srt (r :: L)):Srt L:=⟨fun x hx=>h.some x (r8 _ hx),(aAP.1 h.rise).2⟩
theorem wL{O L:lIi}(h:Srt O)(k:Srt L)(hx:∀ x∈O,∀ y∈L,x.1<=y.1):Srt (O ++ L):=
 ⟨fun r hr=>(o3.1 hr).elim (h.some r) (k.some r),List.pairwise_append.2 ⟨h.rise,k.rise,hx⟩⟩
theorem wJ{r:Int × Int}(h:r.1<=r.2):Srt [r]:=⟨fun x hx=>by simp at hx;subst hx;exact h,List.pairwise_singleton _ _⟩
structure MI(A B A' B' O:lIi):Prop where
 out:Srt O
 a:Srt A'
 b:Srt B'
 mem:∀ c,(In O c\/In A' c\/In B' c) ↔ (In A c\/In B c)
 le:∀ x∈O,∀ y,y∈A'\/y∈B'->x.1<=y.1
 fit:Fit O/\Fit A'/\Fit B'
 len:O.length+A'.length+B'.length<=A.length+B.length
theorem MI.start{A B:lIi}(ha:Srt A)(hb:Srt B)(fa:Fit A)(fb:Fit B):MI A B A B []:=
 ⟨wK,ha,hb,fun c=>⟨fun q=>q.elim (fun q=>absurd q (gT c)) id,.inr⟩,fun _ h=>(by cases h),⟨kL,fa,fb⟩,by simp⟩
theorem MI.right{A B A' B' O:lIi}{a b:Int × Int}(I:MI A B (a :: A') (b :: B') O)(h:b.1 < a.1):MI A B (a :: A') B' (O ++ [b]):=by
 refine⟨wL I.out (wJ (I.b.some b (by simp))) (fun x hx y hy=>by simp at hy;subst hy;exact I.le x hx y (.inr (by simp))),I.a,yL I.b,fun c=>?_,fun x hx y hy=>?_,⟨dT I.fit.1 (fS I.fit.2.2 fun z hz=>by simp at hz;subst hz;simp),I.fit.2.1,fS I.fit.2.2 fun z hz=>r8 _ hz⟩,by have:=I.len;simp at *;omega⟩
 ·rw [<- I.mem,bZ,eD,cH b B'];constructor
  ·rintro ((q | q) | q | q)
   ·exact .inl q
   ·exact .inr (.inr (.inl q))
   ·exact .inr (.inl q)
   ·exact .inr (.inr (.inr q))
  ·rintro (q | q | q | q)
   ·exact .inl (.inl q)
   ·exact .inr (.inl q)
   ·exact .inl (.inr q)
   ·exact .inr (.inr q)
 ·rcases o3.1 hx with hx | hx
  ·exact I.le x hx y (hy.elim .inl fun q=>.inr (r8 _ q))
  ·simp at hx;subst hx;rcases hy with hy | hy
   ·rcases aBB.1 hy with rfl | hy
    ·omega
    ·have:=(aAP.1 I.a.rise).1 y hy;omega
   ·exact(aAP.1 I.b.rise).1 y hy
theorem MI.left{A B A' B' O:lIi}{a:Int × Int}(I:MI A B (a :: A') B' O)(h:∀ b∈B',a.1<=b.1):MI A B A' B' (O ++ [a]):=by
 refine⟨wL I.out (wJ (I.a.some a (by simp))) (fun x hx y hy=>by simp at hy;subst hy;exact I.le x hx y (.inl (by simp))),yL I.a,I.b,fun c=>?_,fun x hx y hy=>?_,⟨dT I.fit.1 (fS I.fit.2.1 fun z hz=>by simp at hz;subst hz;simp),fS I.fit.2.1 fun z hz=>r8 _ hz,I.fit.2.2⟩,by have:=I.len;simp at *;omega⟩
 ·rw [<- I.mem,bZ,eD,cH a A'];constructor
  ·rintro ((q | q) | q | q)
   ·exact .inl q
   ·exact .inr (.inl (.inl q))
   ·exact .inr (.inl (.inr q))
   ·exact .inr (.inr q)
  ·rintro (q |(q | q) | q)
   ·exact .inl (.inl q)
   ·exact .inl (.inr q)
   ·exact .inr (.inl q)
   ·exact .inr (.inr q)
 ·rcases o3.1 hx with hx | hx
  ·exact I.le x hx y (hy.elim (fun q=>.inl (r8 _ q)) .inr)
  ·simp at hx;subst hx;rcases hy with hy | hy
   ·exact(aAP.1 I.a.rise).1 y hy
   ·exact h y hy
theorem MI.done{A B B' O:lIi}(I:MI A B [] B' O):Srt (O ++ B')/\(∀ c,In (O ++ B') c ↔ (In A c\/In B c))/\Fit (O ++ B')/\(O ++ B').length<=A.length+B.length:=by
 refine⟨wL I.out I.b fun x hx y hy=>I.le x hx y (.inr hy),fun c=>?_,dT I.fit.1 I.fit.2.2,by have:=I.len;simp at *;omega⟩;rw [<- I.mem,bZ];exact⟨fun q=>q.elim .inl fun q=>.inr (.inr q),fun q=>q.elim .inl fun q=>q.elim (fun q=>absurd q (gT c)) .inr⟩
def tR(w:World)(L:lIi)(e:Ending)(w':World):Prop:=∃ v S,e=.returned v/\RR w.heap.size w' v S/\Srt S/\Fit S/\(∀ c,In S c ↔ In L c)/\S.length<=L.length/\wBl w w'
theorem ArgR.take{W:World}{g off n cap:Nat}{L:lIi}(h:ArgR W (.slice (some ⟨g,off,none⟩) n cap) L){k:Nat}(hk:k<=L.length):ArgR W (.slice (some ⟨g,off,none⟩) k cap) (L.take k):=by
 have hl:(L.take k).length=k:=by simp;omega
 rcases h with⟨p,c,e,rfl,e2⟩ | ⟨g',off',cap',e,h2,h3,h4,h5⟩
 ·simp at hk;subst hk;cases e;exact .inl ⟨_,_,rfl,rfl,fun q=>by cases q⟩
 ·cases e;refine .inr ⟨g,off,cap,by rw [hl],h2,by omega,h4,fun i r hi=>h5 i r ?_⟩;rw [List.getElem?_take] at hi
  split at hi
  ·exact hi
  ·cases hi
theorem ArgR.drop{W:World}{g off n cap:Nat}{L:lIi}(h:ArgR W (.slice (some ⟨g,off,none⟩) n cap) L){k:Nat}(hk:k < L.length):ArgR W (.slice (some ⟨g,off+k * 2,none⟩) (n - k) (cap - k)) (L.drop k):=by
 rcases h with⟨p,c,e,rfl,e2⟩ | ⟨g',off',cap',e,h2,h3,h4,h5⟩
 ·simp at hk
 ·cases e;refine .inr ⟨g,off+k * 2,cap - k,by simp,h2,by simp;omega,by omega,fun i r hi=>?_⟩;rw [aBZ] at hi;have:=h5 (k+i) r hi;rw [show off+k * 2+2 * i=off+2 * (k+i) by omega];exact this
theorem aR9(L:lIi)(k:Nat)(c:Int):(In (L.take k) c\/In (L.drop k) c) ↔ In L c:=by rw [<- bZ,aBX]
section
attribute [local go_sem] aS
theorem oA{w:World}{v:Value}{L:lIi}(h:ArgR w v L)(hF:Fit L)(hn:L.length<=1):Calls Tryz.prog 111 #[v] w (tR w L):=by
 obtain⟨t0,ti,hz0,hz1,hz2⟩:=aV dB
 cases L with
 | nil=>
  obtain⟨q,cap,e,-,-,-⟩:=h.slice;subst e;clear h;go_enter Tryz.func111,Tryz.ntmps111;go_wp2;go_ret;exact⟨_,[],rfl,RR.nil _ _,wK,kL,fun _=>Iff.rfl,t9 _,Below.refl _ _⟩
 | cons r L'=>
  obtain rfl:L'=[]:=aAK (by simpa using hn);obtain⟨g,off,cap,rfl,hg,hn1,hm1,x1,x2⟩:=h.cons;have HF:Hid (Fit [r]):=hF;clear h hF;obtain⟨lo,hi⟩:=r;dsimp only [List.length_nil] at x1 x2 hn1 ⊢;have W1:Hid (w=w):=rfl;by_cases hq:lo<=hi
  ·have dq:decide (lo<=hi)=true:=aAR hq;have HQ:Hid (lo<=hi):=hq;go_enter Tryz.func111,Tryz.ntmps111;go_wp2;refine wx9 ?_
   repeat (go_big_quiet_step (first | exact rfl))
   refine wpQuiet_nil ?_;intro w7 hw7;have B7:Hid (wBl w w7):=aP hw7;have c1:=(B7.out.cell (p:=⟨g,off,none⟩) hg).trans x1;have c2:=(B7.out.cell (p:=⟨g,off+1,none⟩) hg).trans x2;have hz7:=B7.out.size;clear hw7 x1 x2;go_wp2_with (at_builtin;refine wpList_append_own_at _ rfl _ _ 22 rfl w.heap.size 92 t0 (.agg #[.I 0,.I 0]) 2 16 bG ti hz0 hz1 hz2 rfl (by decide) (.slice none 0 0) 0 (aT []) rfl (RR.nil _ _) ⟨w7.heap.size,0,none⟩ 1 1 [.I lo,.I hi] rfl rfl (kW _ _ _ _) (by simp [Value.oneCell']) (by unfold maxLen;omega) (by omega) (by simp;omega) ?_;intro v' w6 hown' hgrow _ hblk;obtain⟨g6,cap6,rfl⟩:=aL hown' (aAL _);have A6:Hid (RR w.heap.size w6 (.slice (some ⟨g6,0,none⟩) 1 cap6) [(lo,hi)]):=hown';have B6:Hid (wBl w w6):=cW (t:=92) (size:=2) (n:=0) (xs:=[]) (B7.out.alloc hz7 _) (RR.nil _ _) hgrow;clear hown' hgrow hblk)
   go_ret;exact⟨_,[(lo,hi)],rfl,A6.out,wJ HQ.out,HF.out,fun _=>Iff.rfl,t9 _,B6.out⟩
  ·have dq:decide (lo<=hi)=false:=t5 hq;have HQ:Hid (¬ lo<=hi):=hq;go_enter Tryz.func111,Tryz.ntmps111;go_wp2;refine wx9 ?_
   repeat (go_big_quiet_step (first | exact rfl))
   refine wpQuiet_nil ?_;intro w7 hw7;have B7:Hid (wBl w w7):=aP hw7;clear hw7;go_wp2;go_ret;exact⟨_,[],rfl,RR.nil _ _,wK,kL,fun c=>⟨fun q=>absurd q (gT c),fun q=>by rw [eD] at q;have:=HQ.out;simp only at q;omega⟩,by simp,B7.out⟩
theorem yM{w:World}{v:Value}{L:lIi}(ih:∀ (w:World) (v:Value) (L':lIi),L'.length < L.length->ArgR w v L'->Fit L'->Calls Tryz.prog 111 #[v] w (tR w L'))(h:ArgR w v L)(hF:Fit L)(hn:1 < L.length)(hl:L.length+1<=8796093022208):Calls Tryz.prog 111 #[v] w (tR w L):=by
 obtain⟨t0,ti,hz0,hz1,hz2⟩:=aV dB;obtain⟨q,cap,e,-,hcap,hcells⟩:=h.slice;subst e;obtain⟨g,off,rfl,hg,-,-⟩:=hcells 0 _ (i9 (by omega));obtain⟨k,hk⟩:∃ k,L.length / 2=k:=⟨_,rfl⟩;have hk1:0 < k:=by omega
 have hk2:k < L.length:=by omega
 have IH:Hid (∀ (w:World) (v:Value) (L':lIi),L'.length < L.length->ArgR w v L'->Fit L'->Calls Tryz.prog 111 #[v] w (tR w L')):=ih;have T1:Hid (ArgR w (.slice (some ⟨g,off,none⟩) k cap) (L.take k)/\Fit (L.take k)/\(L.take k).length < L.length):=⟨h.take (by omega),fS hF fun x hx=>aAJ hx,by simp;omega⟩;have T2:Hid (ArgR w (.slice (some ⟨g,off+k * 2,none⟩) (L.length - k) (cap - k)) (L.drop k)/\Fit (L.drop k)/\(L.drop k).length < L.length):=⟨h.drop hk2,fS hF fun x hx=>List.mem_of_mem_drop hx,by simp;omega⟩;have HL:Hid ((L.take k).length+(L.drop k).length=L.length):=aC (by simp;omega);have q1:((L.length:Int).tdiv 2)=(k:Int):=by rw [<- hk];simp [Int.tdiv_eq_ediv]
 have q2:IntKind.wrap .i64 ((L.length:Int).tdiv 2)=(k:Int):=by rw [q1,IntKind.wrap_i64];omega
 have n0:((L.length:Int)==0)=false:=beq_false_of_ne (by omega);have n1:((L.length:Int)==1)=false:=beq_false_of_ne (by omega);have k0:(0:Int)<=(k:Int):=by omega
 have k1:(k:Int)<=(cap:Int):=by omega
 have k2:(k:Int)<=(L.length:Int):=by omega
 have k3:¬ cap=k:=by omega
 clear h hF ih hcells hk;go_enter Tryz.func111,Tryz.ntmps111;go_wp2_with first
  |(go_at_call 111;have hx:=X5.out;clear hx;have hih:=IH.out w5 _ _ T2.out.2.2 (T2.out.1.kept X5.out.2.2.2.2.2) T2.out.2.1;(with_reducible refine hih.mono ?_);clear hih;rintro e w6 ⟨v6,B,rfl,h1,h2,h3,h4,h5,h6⟩;obtain⟨qb,cb,rfl⟩:=h1.shape;have X6:Hid (RR w5.heap.size w6 (.slice qb B.length cb) B/\Srt B/\Fit B/\(∀ c,In B c ↔ In (L.drop k) c)/\B.length<=(L.drop k).length/\wBl w5 w6):=⟨h1,h2,h3,h4,h5,h6⟩;clear h1 h2 h3 h4 h5 h6)
  |(go_at_call 111;have hih:=IH.out w _ _ T1.out.2.2 T1.out.1 T1.out.2.1;(with_reducible refine hih.mono ?_);clear hih;rintro e w5 ⟨v5,A,rfl,h1,h2,h3,h4,h5,h6⟩;obtain⟨qa,ca,rfl⟩:=h1.shape;have X5:Hid (RR w.heap.size w5 (.slice qa A.length ca) A/\Srt A/\Fit A/\(∀ c,In A c ↔ In (L.take k) c)/\A.length<=(L.take k).length/\wBl w w5):=⟨h1,h2,h3,h4,h5,h6⟩;clear h1 h2 h3 h4 h5 h6)
 rename World=>W1;have ST:Hid (MI A B A B []):=MI.start X5.out.2.1 X6.out.2.1 X5.out.2.2.1 X6.out.2.2.1;have AA:Hid (ArgR W1 (.slice qa A.length ca) A/\ArgR W1 (.slice qb B.length cb) B):=⟨(X5.out.1.kept X6.out.2.2.2.2.2).arg,X6.out.1.arg⟩;have hab:A.length+B.length+1<=8796093022208:=by have:=X5.out.2.2.2.2.1;have:=X6.out.2.2.2.2.1;have:=HL.out;omega
 have BW:Hid (wBl w W1):=aJ X5.out.2.2.2.2.2 X6.out.2.2.2.2.2 lz9;have HA:Hid (∀ (i:Nat) (r:Int × Int),A[i]?=some r->∃ g off,qa=some ⟨g,off,none⟩/\g < W1.heap.size/\W1.cell? ⟨g,off+2 * i,none⟩=some (.I r.1)/\W1.cell? ⟨g,off+2 * i+1,none⟩=some (.I r.2)):=by
  obtain⟨q',cap',e,-,-,hc⟩:=AA.out.1.slice;cases e;exact hc
 have FIN:Hid (∀ O B',MI A B [] B' O->Srt (O ++ B')/\Fit (O ++ B')/\(∀ c,In (O ++ B') c ↔ In L c)/\(O ++ B').length<=L.length):=fun O B' I=>by
  obtain⟨m1,m2,m3,m4⟩:=I.done;refine⟨m1,m3,fun c=>?_,?_⟩
  ·rw [m2,X5.out.2.2.2.1,X6.out.2.2.2.1,aR9]
  ·have:=X5.out.2.2.2.2.1;have:=X6.out.2.2.2.2.1;have:=HL.out;omega
 clear q1 q2 k0 k1 k2 k3 n0 n1;go_loopw [3,5,6] (fun ov bv i wr=>∃ (j:Nat) (B' O:lIi),j<=A.length/\i=.I j/\ArgR W1 bv B'/\RR W1.heap.size wr ov O/\MI A B (A.drop j) B' O/\wBl W1 wr) (fun _ _ i _=>A.length - (intOf i).toNat)
 case atStart=>exact⟨0,B,[],o9 _,rfl,AA.out.2,RR.nil _ _,ST.out,Below.refl _ _⟩
 case round=>
  obtain⟨j,B',O,hj,rfl,hbv,hov,hI,hb⟩:=hrel;have RB:Hid (ArgR W1 u5 B'):=hbv;have RO:Hid (RR W1.heap.size wr u3 O):=hov;have I:Hid (MI A B (A.drop j) B' O):=hI;have BB:Hid (wBl W1 wr):=hb;clear hbv hov hI hb;by_cases hlt:j < A.length
  ·obtain⟨a,ea⟩:∃ r,A[j]?=some r:=⟨_,i9 hlt⟩;have DR:Hid (A.drop j=a :: A.drop (j+1)):=aC (by obtain⟨h1,h2⟩:=m7.1 ea;rw [aBA h1,h2]);obtain⟨ga,oa,rfl,hga,xa1,xa2⟩:=HA.out j _ ea;have I2:Hid (MI A B (a :: A.drop (j+1)) B' O):=aC (by rw [<- DR.out];exact I.out);rw [aAU] at xa1 xa2;obtain⟨la,ra⟩:=a;dsimp only at xa1 xa2;have XA:Hid (W1.cell? ⟨ga,oa+j * 2,none⟩=some (.I la)/\W1.cell? ⟨ga,oa+j * 2+1,none⟩=some (.I ra)/\ga < W1.heap.size):=⟨xa1,xa2,hga⟩;have i0:(0:Int)<=(j:Int):=(by omega);have i1:(j:Int) < (A.length:Int):=(by omega);clear xa1 xa2 hga ea;rename World=>W2;obtain⟨qq,cc,e5⟩:∃ q c,u5=.slice q B'.length c:=by obtain⟨q,c,e,-⟩:=RB.out.slice;exact⟨q,c,e⟩
   obtain⟨qq3,cc3,e3⟩:=RO.out.shape;go_wp2;go_loopw [3,5] (fun ov bv wr=>∃ (B' O:lIi),ArgR W1 bv B'/\RR W1.heap.size wr ov O/\MI A B ((la,ra) :: A.drop (j+1)) B' O/\wBl W1 wr) (fun _ bv _=>qC bv)
   case atStart=>exact⟨B',O,RB.out,RO.out,I2.out,BB.out⟩
   case round=>
    clear RB RO I I2 BB e5 e3;obtain⟨B',O,hbv,hov,hI,hb⟩:=hrel;obtain⟨qo,co,e3⟩:=hov.shape;subst e3;have RO:Hid (RR W1.heap.size wr (.slice qo O.length co) O):=hov;have I:Hid (MI A B ((la,ra) :: A.drop (j+1)) B' O):=hI;have BB:Hid (wBl W1 wr):=hb;have hol:O.length+1<=8796093022208:=(by have:=hI.len;simp at this;omega);have hbs:=hb.size;have ca1:=(BB.out.cell (p:=⟨ga,oa+j * 2,none⟩) XA.out.2.2).trans XA.out.1;have sa:ga < wr.heap.size:=n9 XA.out.2.2 hbs;clear hov hI hb
    cases B' with
    | nil=>
     obtain⟨q2,cap2,e2,-,-,-⟩:=hbv.slice;simp only [List.length_nil] at e2;subst e2;have RB:Hid (ArgR W1 (.slice q2 0 cap2) []):=hbv;have I2:Hid (MI A B (A.drop (j+1)) [] (O ++ [(la,ra)])):=I.out.left (fun _ h=>by cases h);have d0:decide ((0:Int) < 0)=false:=(by decide);clear hbv;go_wp2;refine wx9 ?_
     repeat (go_big_quiet_step (first | exact rfl))
     refine wpQuiet_nil ?_;intro w7 hw7;have B7:Hid (wBl W1 w7):=aJ BB.out (aP hw7) lz9;have R7:Hid (RR W1.heap.size w7 (.slice qo O.length co) O):=RO.out.kept (aP hw7);have e1:=(B7.out.cell (p:=⟨ga,oa+j * 2,none⟩) XA.out.2.2).trans XA.out.1;have e2:=(B7.out.cell (p:=⟨ga,oa+j * 2+1,none⟩) XA.out.2.2).trans XA.out.2.1;have hz7:=B7.out.size;clear hw7 ca1;go_wp2_with (at_builtin;refine wpList_append_own_at _ rfl _ _ 22 rfl W1.heap.size 92 t0 (.agg #[.I 0,.I 0]) 2 16 bG ti hz0 hz1 hz2 rfl (by decide) (.slice qo O.length co) O.length (aT O) rfl (o8 R7.out (.cells #[.I la,.I ra] 92)) ⟨w7.heap.size,0,none⟩ 1 1 [.I la,.I ra] rfl rfl (kW _ _ _ _) (by simp [Value.oneCell']) (by unfold maxLen;omega) (by omega) (by simp;omega) ?_;intro v' w6 hown' hgrow _ hblk;obtain⟨g6,cap6,rfl⟩:=aL hown' (aAL _);have A6:Hid (RR W1.heap.size w6 (.slice (some ⟨g6,0,none⟩) (O.length+1) cap6) (O ++ [(la,ra)])):=pZ hown';have B6:Hid (wBl W1 w6):=cW (B7.out.alloc B7.out.size _) (o8 R7.out _) hgrow;clear hown' hgrow hblk)
     go_roundw
     case rel=>exact⟨j+1,[],_,by omega,by go_num,RB.out,A6.out,I2.out,B6.out⟩
     case measure=>simp [intOf];omega
    | cons b B'=>
     obtain⟨g2,o2,cap2,e2,hg2,hn2,hm2,y1,y2⟩:=hbv.cons;subst e2;have RB:Hid (ArgR W1 (.slice (some ⟨g2,o2,none⟩) (B'.length+1) cap2) (b :: B')):=hbv;obtain⟨lb,rb⟩:=b;dsimp only at y1 y2;have YB:Hid (W1.cell? ⟨g2,o2,none⟩=some (.I lb)/\W1.cell? ⟨g2,o2+1,none⟩=some (.I rb)/\g2 < W1.heap.size):=⟨y1,y2,hg2⟩;have cb1:=(BB.out.cell (p:=⟨g2,o2,none⟩) YB.out.2.2).trans YB.out.1;have sb:g2 < wr.heap.size:=n9 hg2 hbs;have d1:(0:Int) < (B'.length:Int)+1:=(by omega);have dd:decide ((0:Int) < (B'.length:Int)+1)=true:=aAR d1;unfold maxLen at hm2;clear hbv y1 y2 hg2;by_cases hq:lb < la
     ·have I2:Hid (MI A B ((la,ra) :: A.drop (j+1)) B' (O ++ [(lb,rb)])):=I.out.right hq;have dq:decide (lb < la)=true:=aAR hq;have TT:=RB.out.tail;by_cases hcap:cap2=1
      ·have T1':Hid (ArgR W1 (.slice (some ⟨g2,o2,none⟩) 0 0) B'):=TT.1 hcap;have hA0:B'.length=0:=(by omega);subst hcap;clear TT;go_wp2;refine wx9 ?_
       repeat (go_big_quiet_step (first | exact rfl))
       refine wpQuiet_nil ?_;intro w7 hw7;have B7:Hid (wBl W1 w7):=aJ BB.out (aP hw7) lz9;have R7:Hid (RR W1.heap.size w7 (.slice qo O.length co) O):=RO.out.kept (aP hw7);have e1:=(B7.out.cell (p:=⟨g2,o2,none⟩) YB.out.2.2).trans YB.out.1;have e2:=(B7.out.cell (p:=⟨g2,o2+1,none⟩) YB.out.2.2).trans YB.out.2.1;have hz7:=B7.out.size;clear hw7 ca1 cb1;go_wp2_with (at_builtin;refine wpList_append_own_at _ rfl _ _ 22 rfl W1.heap.size 92 t0 (.agg #[.I 0,.I 0]) 2 16 bG ti hz0 hz1 hz2 rfl (by decide) (.slice qo O.length co) O.length (aT O) rfl (o8 R7.out (.cells #[.I lb,.I rb] 92)) ⟨w7.heap.size,0,none⟩ 1 1 [.I lb,.I rb] rfl rfl (kW _ _ _ _) (by simp [Value.oneCell']) (by unfold maxLen;omega) (by omega) (by simp;omega) ?_;intro v' w6 hown' hgrow _ hblk;obtain⟨g6,cap6,rfl⟩:=aL hown' (aAL _);have A6:Hid (RR W1.heap.size w6 (.slice (some ⟨g6,0,none⟩) (O.length+1) cap6) (O ++ [(lb,rb)])):=pZ hown';have B6:Hid (wBl W1 w6):=cW (B7.out.alloc B7.out.size _) (o8 R7.out _) hgrow;clear hown' hgrow hblk)
       go_roundw
       case rel=>exact⟨B',_,T1'.out,A6.out,I2.out,B6.out⟩
       case measure=>simp only [qC];omega
      ·have T1':Hid (ArgR W1 (.slice (some ⟨g2,o2+2,none⟩) B'.length (cap2 - 1)) B'):=TT.2 hcap;clear TT;go_wp2;refine wx9 ?_
       repeat (go_big_quiet_step (first | exact rfl))
       refine wpQuiet_nil ?_;intro w7 hw7;have B7:Hid (wBl W1 w7):=aJ BB.out (aP hw7) lz9;have R7:Hid (RR W1.heap.size w7 (.slice qo O.length co) O):=RO.out.kept (aP hw7);have e1:=(B7.out.cell (p:=⟨g2,o2,none⟩) YB.out.2.2).trans YB.out.1;have e2:=(B7.out.cell (p:=⟨g2,o2+1,none⟩) YB.out.2.2).trans YB.out.2.1;have hz7:=B7.out.size;clear hw7 ca1 cb1;go_wp2_with (at_builtin;refine wpList_append_own_at _ rfl _ _ 22 rfl W1.heap.size 92 t0 (.agg #[.I 0,.I 0]) 2 16 bG ti hz0 hz1 hz2 rfl (by decide) (.slice qo O.length co) O.length (aT O) rfl (o8 R7.out (.cells #[.I lb,.I rb] 92)) ⟨w7.heap.size,0,none⟩ 1 1 [.I lb,.I rb] rfl rfl (kW _ _ _ _) (by simp [Value.oneCell']) (by unfold maxLen;omega) (by omega) (by simp;omega) ?_;intro v' w6 hown' hgrow _ hblk;obtain⟨g6,cap6,rfl⟩:=aL hown' (aAL _);have A6:Hid (RR W1.heap.size w6 (.slice (some ⟨g6,0,none⟩) (O.length+1) cap6) (O ++ [(lb,rb)])):=pZ hown';have B6:Hid (wBl W1 w6):=cW (B7.out.alloc B7.out.size _) (o8 R7.out _) hgrow;clear hown' hgrow hblk)
       go_roundw
       case rel=>exact⟨B',_,T1'.out,A6.out,I2.out,B6.out⟩
       case measure=>simp only [qC];omega
     ·have I2:Hid (MI A B (A.drop (j+1)) ((lb,rb) :: B') (O ++ [(la,ra)])):=I.out.left (fun y hy=>by
       rcases aBB.1 hy with rfl | hy
       ·simp only;omega
       ·have:=(aAP.1 I.out.b.rise).1 y hy;simp only at this ⊢;omega)
      have dq:decide (lb < la)=false:=t5 hq;go_wp2;refine wx9 ?_
      repeat (go_big_quiet_step (first | exact rfl))
      refine wpQuiet_nil ?_;intro w7 hw7;have B7:Hid (wBl W1 w7):=aJ BB.out (aP hw7) lz9;have R7:Hid (RR W1.heap.size w7 (.slice qo O.length co) O):=RO.out.kept (aP hw7);have e1:=(B7.out.cell (p:=⟨ga,oa+j * 2,none⟩) XA.out.2.2).trans XA.out.1;have e2:=(B7.out.cell (p:=⟨ga,oa+j * 2+1,none⟩) XA.out.2.2).trans XA.out.2.1;have hz7:=B7.out.size;clear hw7 ca1 cb1;go_wp2_with (at_builtin;refine wpList_append_own_at _ rfl _ _ 22 rfl W1.heap.size 92 t0 (.agg #[.I 0,.I 0]) 2 16 bG ti hz0 hz1 hz2 rfl (by decide) (.slice qo O.length co) O.length (aT O) rfl (o8 R7.out (.cells #[.I la,.I ra] 92)) ⟨w7.heap.size,0,none⟩ 1 1 [.I la,.I ra] rfl rfl (kW _ _ _ _) (by simp [Value.oneCell']) (by unfold maxLen;omega) (by omega) (by simp;omega) ?_;intro v' w6 hown' hgrow _ hblk;obtain⟨g6,cap6,rfl⟩:=aL hown' (aAL _);have A6:Hid (RR W1.heap.size w6 (.slice (some ⟨g6,0,none⟩) (O.length+1) cap6) (O ++ [(la,ra)])):=pZ hown';have B6:Hid (wBl W1 w6):=cW (B7.out.alloc B7.out.size _) (o8 R7.out _) hgrow;clear hown' hgrow hblk)
      go_roundw
      case rel=>exact⟨j+1,(lb,rb) :: B',_,by omega,by go_num,RB.out,A6.out,I2.out,B6.out⟩
      case measure=>simp [intOf];omega
  ·have i1:¬ (j:Int) < (A.length:Int):=by omega
   have D0:Hid (A.drop j=[]):=aC (List.drop_of_length_le (by omega));have I2:Hid (MI A B [] B' O):=aC (by rw [<- D0.out];exact I.out);obtain⟨q2,cap2,e5,-,-,-⟩:=RB.out.slice;subst e5;obtain⟨qo,co,e3⟩:=RO.out.shape;subst e3;have F:=FIN.out O B' I2.out;have FF:Hid _:=F;have hlen:=F.2.2.2;rw [o4] at hlen;have hbs:=BB.out.size;clear F
   cases q2 with
   | none=>
    have e0:Value.slice none B'.length cap2=.slice none 0 0/\B'=[]:=by
     rcases RB.out with⟨p,cap',e,e2,e3⟩ | ⟨g',off',cap',e,_⟩
     ·subst e2;cases e;have:=e3 rfl;subst this;exact⟨rfl,rfl⟩
     ·cases e
    obtain⟨e1,e2⟩:=e0;subst e2;cases e1;go_wp2_with (at_builtin;refine wpList_append_own_none rfl _ _ 22 rfl W1.heap.size 92 t0 2 bG ti (.slice qo O.length co) O.length (aT O) rfl RO.out rfl ?_)
    go_ret;refine⟨_,O ++ [],rfl,?_,FF.out.1,FF.out.2.1,FF.out.2.2.1,FF.out.2.2.2,aJ BW.out BB.out lz9⟩;rw [aBR];exact RO.out.mono BW.out.size
   | some ad=>
    have NW:Hid (∀ j u,(aT B')[j]?=some u->wr.cell? (ad.add j)=some u):=(RB.out.kept BB.out).news;go_wp2_with (at_builtin;refine wpList_append_own_at _ rfl _ _ 22 rfl W1.heap.size 92 t0 (.agg #[.I 0,.I 0]) 2 16 bG ti hz0 hz1 hz2 rfl (by decide) (.slice qo O.length co) O.length (aT O) rfl RO.out ad B'.length cap2 (aT B') rfl (eC B') NW.out (nT B') (by unfold maxLen;omega) (by omega) hbs ?_;intro v' w6 hown' hgrow _ hblk;have A6:Hid (RR W1.heap.size w6 v' (O ++ B')):=rG hown';have B6:Hid (wBl W1 w6):=cW BB.out RO.out hgrow;clear hown' hgrow hblk)
    go_ret;exact⟨_,O ++ B',rfl,A6.out.mono BW.out.size,FF.out.1,FF.out.2.1,FF.out.2.2.1,FF.out.2.2.2,aJ BW.out B6.out lz9⟩
theorem aX0(n:Nat):∀ (w:World) (v:Value) (L:lIi),L.length<=n->n+1<=8796093022208->ArgR w v L->Fit L->Calls Tryz.prog 111 #[v] w (tR w L):=by
 induction n with
 | zero=>exact fun w v L hn _ h hF=>oA h hF (by omega)
 | succ n ih=>
  intro w v L hn hl h hF;by_cases h1:L.length<=1
  ·exact oA h hF h1
  ·exact yM (fun w v L' hL' h' hF'=>ih w v L' (by omega) (by omega) h' hF') h hF (by omega) (by omega)
end
section
attribute [local go_sem] aS
theorem mC{base:Nat}{w:World}{v:Value}{A B:lIi}(e:A=B)(h:RR base w v A):RR base w v B:=e ▸ h
theorem lE{w:World}{v:Value}{L:lIi}(h:ArgR w v L)(hF:Fit L)(hl:L.length+1<=8796093022208) :
  Calls Tryz.prog 87 #[v] w (xT w (In L) L.length):=by
 obtain⟨t0,ti,hz0,hz1,hz2⟩:=aV dB;have H:Hid (ArgR w v L/\Fit L):=⟨h,hF⟩;clear h hF;go_enter Tryz.func87,Tryz.ntmps87;go_wp2_with (go_at_call 111;refine(aX0 L.length w v L lz9 hl H.out.1 H.out.2).mono ?_;rintro e w5 ⟨v5,S,rfl,h1,h2,h3,h4,h5,h6⟩;obtain⟨qs,cs,rfl⟩:=h1.shape;have X5:Hid (RR w.heap.size w5 (.slice qs S.length cs) S/\Srt S/\Fit S/\(∀ c,In S c ↔ In L c)/\S.length<=L.length/\wBl w w5):=⟨h1,h2,h3,h4,h5,h6⟩;clear h1 h2 h3 h4 h5 h6)
 rename World=>W1;have hsl:=X5.out.2.2.2.2.1;have HC:Hid (∀ (i:Nat) (r:Int × Int),S[i]?=some r->∃ g off,qs=some ⟨g,off,none⟩/\g < W1.heap.size/\W1.cell? ⟨g,off+2 * i,none⟩=some (.I r.1)/\W1.cell? ⟨g,off+2 * i+1,none⟩=some (.I r.2)):=by
  obtain⟨q',cap',e,-,-,hc⟩:=X5.out.1.arg.slice;cases e;exact hc
 have SP:Hid (∀ k,k<=S.length->Cls ((S.take k).foldl cE [])/\Fit ((S.take k).foldl cE [])/\((S.take k).foldl cE []).length<=k/\∀ c,In ((S.take k).foldl cE []) c ↔ In (S.take k) c):=fun k hk=>by
  have:=mL X5.out.2.1.rise X5.out.2.2.1 k hk;exact⟨this.1,this.2.1,this.2.2.1,this.2.2.2.1⟩
 go_loopw [3,5] (fun ov i wr=>∃ k:Nat,k<=S.length/\i=.I k/\RR W1.heap.size wr ov ((S.take k).foldl cE [])/\wBl W1 wr) (fun _ i _=>S.length - (intOf i).toNat)
 case atStart=>exact⟨0,o9 _,rfl,RR.nil _ _,Below.refl _ _⟩
 case round=>
  obtain⟨k,hk,rfl,hrr,hb⟩:=hrel;have RC:Hid (RR W1.heap.size wr u3 ((S.take k).foldl cE [])):=hrr;have BB:Hid (wBl W1 wr):=hb;have hbs:=hb.size;clear hb hrr;by_cases hlt:k < S.length
  ·obtain⟨r,hr⟩:∃ r,S[k]?=some r:=⟨_,i9 hlt⟩;obtain⟨g,off,rfl,hg,x1,x2⟩:=HC.out k _ hr;rw [aAU] at x1 x2;have NX:Hid ((S.take (k+1)).foldl cE []=cE ((S.take k).foldl cE []) r):=aC (by
    obtain⟨h1,h2⟩:=m7.1 hr;rw [dN _ _ h1,aCF,h2];rfl)
   have hne:¬ r.2 < r.1:=by have:=X5.out.2.1.some r (n7 hr);omega
   have hfr:=X5.out.2.2.1 r (n7 hr);have SPk:=SP.out k hk;have FC:Hid (Fit ((S.take k).foldl cE [])):=SPk.2.1;have hcl:=SPk.2.2.1;obtain⟨lo,hi⟩:=r;dsimp only at x1 x2 hne hfr;have XS:Hid (W1.cell? ⟨g,off+k * 2,none⟩=some (.I lo)/\W1.cell? ⟨g,off+k * 2+1,none⟩=some (.I hi)/\g < W1.heap.size):=⟨x1,x2,hg⟩;have cs1:=(BB.out.cell (p:=⟨g,off+k * 2,none⟩) hg).trans x1;have sg:g < wr.heap.size:=n9 hg hbs;have i0:(0:Int)<=(k:Int):=(by omega);have i1:(k:Int) < (S.length:Int):=(by omega);clear x1 x2 hr SPk hg;generalize (S.take k).foldl cE []=C at *;rcases iN C with e | ⟨D,x,e⟩
   ·subst e;obtain⟨qo,co,e3⟩:=RC.out.shape;subst e3;have LD:Hid ((0:Nat)=0):=rfl;have NX2:Hid ((S.take (k+1)).foldl cE []=[(lo,hi)]):=aC (by rw [NX.out,lV hne]);simp only [List.length_nil] at RC ⊢;have wn:IntKind.wrap .i64 ((0:Int) - 1)=-1:=(by decide);have d0:decide ((0:Int)<=-1)=false:=by decide
    ··
      go_wp2;refine wx9 ?_
      repeat (go_big_quiet_step (first | exact rfl))
      refine wpQuiet_nil ?_;intro w7 hw7;have B7:Hid (wBl W1 w7):=aJ BB.out (aP hw7) lz9;have e1:=(B7.out.cell (p:=⟨g,off+k * 2,none⟩) XS.out.2.2).trans XS.out.1;have e2:=(B7.out.cell (p:=⟨g,off+k * 2+1,none⟩) XS.out.2.2).trans XS.out.2.1;have hz7:=B7.out.size;have R7:Hid (RR W1.heap.size w7 (.slice qo 0 co) []):=RC.out.kept (aP hw7);clear hw7 cs1;go_wp2_with (at_builtin;refine wpList_append_own_at _ rfl _ _ 22 rfl W1.heap.size 92 t0 (.agg #[.I 0,.I 0]) 2 16 bG ti hz0 hz1 hz2 rfl (by decide) (.slice qo 0 co) 0 (aT []) rfl (o8 R7.out (.cells #[.I lo,.I hi] 92)) ⟨w7.heap.size,0,none⟩ 1 1 [.I lo,.I hi] rfl rfl (kW _ _ _ _) (by simp [Value.oneCell']) (by unfold maxLen;omega) (by omega) (by simp;omega) ?_;intro v' w6 hown' hgrow _ hblk;obtain⟨g6,cap6,rfl⟩:=aL hown' (aAL _);have A6:Hid (RR W1.heap.size w6 (.slice (some ⟨g6,0,none⟩) (0+1) cap6) ([(lo,hi)])):=rG (F:=[]) (L:=[(lo,hi)]) hown';have B6:Hid (wBl W1 w6):=cW (B7.out.alloc hz7 _) (o8 R7.out _) hgrow;clear hown' hgrow hblk)
      go_roundw
      case rel=>exact⟨k+1,by omega,by go_num,mC NX2.out.symm A6.out,B6.out⟩
      case measure=>simp [intOf];omega
   ·subst e;have fx:=FC.out x (by simp);obtain⟨nd,hnd⟩:∃ nd,D.length=nd:=⟨_,rfl⟩;have LD:Hid (D.length=nd):=hnd;have OW0:Hid (wr.ownsRow W1.heap.size 92 2 u3 (nd+1) (aT (D ++ [x]))):=aC (by have:=RC.out;unfold RR at this;rwa [o4,aCD,hnd] at this);obtain⟨go,co,e3⟩:=aL OW0.out (by omega);subst e3;have OW:Hid (wr.ownsRow W1.heap.size 92 2 (.slice (some ⟨go,0,none⟩) (nd+1) co) (nd+1) (aT (D ++ [x]))):=OW0.out;have hgo:go < wr.heap.size:=(aF OW.out rfl).2.1;have hgb:W1.heap.size<=go:=(aF OW.out rfl).1;have hcell:=(qD OW.out hnd).2;rw [o4,aCD,hnd] at hcl;clear RC OW0 hnd;obtain⟨y,hy⟩:∃ y,x.2=y:=⟨_,rfl⟩;rw [hy] at hcell fx;have HY:Hid (x.2=y):=hy;clear hy;have wn:IntKind.wrap .i64 ((nd:Int)+1 - 1)=(nd:Int):=(by rw [IntKind.wrap_i64];omega);have j0:(0:Int)<=(nd:Int):=(by omega);have j1:(nd:Int) < (nd:Int)+1:=(by omega);have d0:decide ((0:Int)<=(nd:Int))=true:=aAR j0;by_cases hf:y+1 < lo
    ·have d1:decide (lo<=y)=false:=t5 (by omega);have wl:IntKind.wrap .i64 (lo - 1)=lo - 1:=(by rw [IntKind.wrap_i64];omega);have d2:(lo - 1==y)=false:=beq_false_of_ne (by omega);have NX2:Hid ((S.take (k+1)).foldl cE []=D ++ [x] ++ [(lo,hi)]):=aC (by rw [NX.out,lX hne (by rw [HY.out];exact hf)])
     ·
      go_wp2;refine wx9 ?_
      repeat (go_big_quiet_step (first | exact rfl))
      refine wpQuiet_nil ?_;intro w7 hw7;have B7:Hid (wBl W1 w7):=aJ BB.out (aP hw7) lz9;have e1:=(B7.out.cell (p:=⟨g,off+k * 2,none⟩) XS.out.2.2).trans XS.out.1;have e2:=(B7.out.cell (p:=⟨g,off+k * 2+1,none⟩) XS.out.2.2).trans XS.out.2.1;have hz7:=B7.out.size;have R7:Hid (w7.ownsRow W1.heap.size 92 2 (.slice (some ⟨go,0,none⟩) (nd+1) co) (nd+1) (aT (D ++ [x]))):=aH (S:=fun _=>False) OW.out (Fr.of_below (aP hw7)) (fun _ _ q=>q);clear hw7 cs1 hcell;go_wp2_with (at_builtin;refine wpList_append_own_at _ rfl _ _ 22 rfl W1.heap.size 92 t0 (.agg #[.I 0,.I 0]) 2 16 bG ti hz0 hz1 hz2 rfl (by decide) (.slice (some ⟨go,0,none⟩) (nd+1) co) (nd+1) (aT (D ++ [x])) rfl (o8 R7.out (.cells #[.I lo,.I hi] 92)) ⟨w7.heap.size,0,none⟩ 1 1 [.I lo,.I hi] rfl rfl (kW _ _ _ _) (by simp [Value.oneCell']) (by unfold maxLen;omega) (by omega) (by simp;omega) ?_;intro v' w6 hown' hgrow _ hblk;obtain⟨g6,cap6,rfl⟩:=aL hown' (aAL _);have A6:Hid (RR W1.heap.size w6 (.slice (some ⟨g6,0,none⟩) ((nd+1)+1) cap6) (D ++ [x] ++ [(lo,hi)])):=rG (F:=(D ++ [x])) (L:=[(lo,hi)]) hown';have B6:Hid (wBl W1 w6):=cW (B7.out.alloc hz7 _) (o8 R7.out _) hgrow;clear hown' hgrow hblk)
      go_roundw
      case rel=>exact⟨k+1,by omega,by go_num,mC NX2.out.symm A6.out,B6.out⟩
      case measure=>simp [intOf];omega
    ·obtain⟨M,hM⟩:∃ M,max x.2 hi=M:=⟨_,rfl⟩;have HM:Hid (max x.2 hi=M):=hM;have hmx:∀ t ty w,(Builtin.max_ t ty #[.I y,.I hi]).run Tryz.prog w=.ok (.I M) w:=fun t ty w=>by rw [iZ,<- HY.out,HM.out]
     have NR:Hid (¬ hi < lo->cE (D ++ [x]) (lo,hi)=D ++ [(x.1,max x.2 hi)]):=fun q=>kA q (by rw [HY.out];exact hf);clear hM;by_cases hq:lo<=y
     ·have d1:decide (lo<=y)=true:=aAR hq;have d2:True:=trivial;go_wp2;refine wx9 ?_
      repeat (go_big_quiet_step (first | exact rfl))
      refine wpQuiet_nil ?_;intro w7 hw7;have B7:Hid (wBl W1 w7):=aJ BB.out (aP hw7) lz9;have e1:=(B7.out.cell (p:=⟨g,off+k * 2,none⟩) XS.out.2.2).trans XS.out.1;have e2:=(B7.out.cell (p:=⟨g,off+k * 2+1,none⟩) XS.out.2.2).trans XS.out.2.1;have hz7:=B7.out.size;have O7:Hid (w7.drew.ownsRow W1.heap.size 92 2 (.slice (some ⟨go,0,none⟩) (nd+1) co) (nd+1) (aT (D ++ [x]))):=(aH (S:=fun _=>False) OW.out (Fr.of_below (aP hw7)) (fun _ _ q=>q)).drew;have c7:=((aP hw7).cell (p:=⟨go,nd * 2+1,none⟩) hgo).trans hcell;have f7:w7.frozen? ⟨go,nd * 2+1,none⟩=false:=O7.out.frozenAt (nd * 2+1);clear hw7 hcell d1 d2;go_wp2
      go_region_with fail
      all_goals (
       go_wp2;go_roundw
       case rel=>exact⟨k+1,by omega,by go_num,mC (NX.out.trans (NR.out hne)).symm (by rw [HM.out];exact aY1 (oD O7.out LD.out M) (by have:=LD.out;simp;omega)),B7.out.drew.setCell (p:=⟨go,nd * 2+1,none⟩) hgb _⟩
       case measure=>simp [intOf];omega)
     ·have d1:decide (lo<=y)=false:=t5 hq;have wl:IntKind.wrap .i64 (lo - 1)=lo - 1:=(by rw [IntKind.wrap_i64];omega);have d2:(lo - 1==y)=true:=(by rw [beq_iff_eq];omega);go_wp2;refine wx9 ?_
      repeat (go_big_quiet_step (first | exact rfl))
      refine wpQuiet_nil ?_;intro w7 hw7;have B7:Hid (wBl W1 w7):=aJ BB.out (aP hw7) lz9;have e1:=(B7.out.cell (p:=⟨g,off+k * 2,none⟩) XS.out.2.2).trans XS.out.1;have e2:=(B7.out.cell (p:=⟨g,off+k * 2+1,none⟩) XS.out.2.2).trans XS.out.2.1;have hz7:=B7.out.size;have O7:Hid (w7.drew.ownsRow W1.heap.size 92 2 (.slice (some ⟨go,0,none⟩) (nd+1) co) (nd+1) (aT (D ++ [x]))):=(aH (S:=fun _=>False) OW.out (Fr.of_below (aP hw7)) (fun _ _ q=>q)).drew;have c7:=((aP hw7).cell (p:=⟨go,nd * 2+1,none⟩) hgo).trans hcell;have f7:w7.frozen? ⟨go,nd * 2+1,none⟩=false:=O7.out.frozenAt (nd * 2+1);clear hw7 hcell d1 d2;go_wp2
      go_region_with fail
      all_goals (
       go_wp2;go_roundw
       case rel=>exact⟨k+1,by omega,by go_num,mC (NX.out.trans (NR.out hne)).symm (by rw [HM.out];exact aY1 (oD O7.out LD.out M) (by have:=LD.out;simp;omega)),B7.out.drew.setCell (p:=⟨go,nd * 2+1,none⟩) hgb _⟩
       case measure=>simp [intOf];omega)
  ·have i1:¬ (k:Int) < (S.length:Int):=by omega
   have E:Hid (S.take k=S):=aC (n8 (by omega));have SPn:=SP.out k hk;rw [E.out] at RC SPn;have SS:Hid _:=SPn;have hcl:=SPn.2.2.1;clear SPn;go_wp2;go_ret;exact⟨_,_,rfl,RC.out.mono X5.out.2.2.2.2.2.size,⟨SS.out.1,SS.out.2.1,fun c=>(SS.out.2.2.2 c).trans (X5.out.2.2.2.1 c)⟩,by omega,aJ X5.out.2.2.2.2.2 BB.out lz9⟩
end
section
attribute [local go_sem] aS
theorem aN2{w:World}{va vb:Value}{A B:lIi}(ha:ArgR w va A)(hb:ArgR w vb B) :
  Calls Tryz.prog 48 #[va,vb] w fun e w'=>e=.returned (.bool (decide (A=B)))/\wBl w w':=by
 obtain⟨q1,cap1,rfl,hl1,-,hc1⟩:=ha.slice;obtain⟨q2,cap2,rfl,hl2,-,hc2⟩:=hb.slice;have HC1:Hid (∀ (i:Nat) (r:Int × Int),A[i]?=some r->∃ g off,q1=some ⟨g,off,none⟩/\g < w.heap.size/\w.cell? ⟨g,off+2 * i,none⟩=some (.I r.1)/\w.cell? ⟨g,off+2 * i+1,none⟩=some (.I r.2)):=hc1;have HC2:Hid (∀ (i:Nat) (r:Int × Int),B[i]?=some r->∃ g off,q2=some ⟨g,off,none⟩/\g < w.heap.size/\w.cell? ⟨g,off+2 * i,none⟩=some (.I r.1)/\w.cell? ⟨g,off+2 * i+1,none⟩=some (.I r.2)):=hc2;clear hc1 hc2 ha hb;unfold maxLen at hl1 hl2;by_cases hne:A.length=B.length
 ·have HNE:Hid (A.length=B.length):=hne;rw [<- hne];have b1:(((A.length:Nat):Int) != ((A.length:Nat):Int))=false:=by simp
  clear hne hl2;go_enter Tryz.func48,Tryz.ntmps48;go_wp2;go_loopw [5] (fun i wr=>∃ k:Nat,k<=A.length/\i=.I k/\A.take k=B.take k/\wBl w wr) (fun i _=>A.length - (intOf i).toNat)
  case atStart=>exact⟨0,o9 _,rfl,by simp,Below.refl _ _⟩
  case round=>
   obtain⟨k,hk,rfl,ht,hbl⟩:=hrel;have HT:Hid (A.take k=B.take k):=ht;have BW:Hid (wBl w wr):=hbl;clear ht hbl;by_cases hlt:k < A.length
   ·obtain⟨a,ea⟩:∃ r,A[k]?=some r:=⟨_,i9 hlt⟩;obtain⟨b,eb⟩:∃ r,B[k]?=some r:=⟨_,i9 (by have:=HNE.o;omega)⟩;obtain⟨g1,o1,rfl,hg1,x1,x2⟩:=HC1.o k _ ea;obtain⟨g2,o2,rfl,hg2,y1,y2⟩:=HC2.o k _ eb;have d1:=(BW.o.cell (p:=⟨g1,o1+2 * k,none⟩) hg1).trans x1;have d2:=(BW.o.cell (p:=⟨g1,o1+2 * k+1,none⟩) hg1).trans x2;have d3:=(BW.o.cell (p:=⟨g2,o2+2 * k,none⟩) hg2).trans y1;have d4:=(BW.o.cell (p:=⟨g2,o2+2 * k+1,none⟩) hg2).trans y2;rw [aAU] at d1 d2 d3 d4;have s1:g1 < wr.heap.size:=n9 hg1 BW.o.size;have s2:g2 < wr.heap.size:=n9 hg2 BW.o.size;have NX:Hid (A.take (k+1)=B.take (k+1) ↔ a=b):=nZ ea eb HT.o;have NE:Hid (a≠b->¬ A=B):=fun q e=>by subst e;rw [ea] at eb;exact q (t6 eb)
    have i0:(0:Int)<=(k:Int):=(by omega);have i1:(k:Int) < (A.length:Int):=(by omega);obtain⟨a1,a2⟩:=a;obtain⟨b1',b2⟩:=b;dsimp only at d1 d2 d3 d4;clear x1 x2 y1 y2 ea eb;by_cases e1:a1=b1'
    ·by_cases e2:a2=b2
     ·subst e1 e2;have f1:(a1==a1)=true:=(by simp);have f2:(a2==a2)=true:=(by simp);have NX2:Hid (A.take (k+1)=B.take (k+1)):=NX.o.2 rfl;clear NX NE;go_wp2;refine wx9 ?_
      repeat (go_big_quiet_step (first | exact rfl))
      refine wpQuiet_nil ?_;intro w7 hw7;have B7:Hid (wBl wr w7):=aP hw7;clear hw7;go_wp2;go_roundw
      case rel=>exact⟨k+1,by omega,by go_num,NX2.o,aJ BW.o B7.o lz9⟩
      case measure=>simp [intOf];omega
     ·subst e1;have f1:(a1==a1)=true:=(by simp);have f2:(a2==b2)=false:=(by simp [e2]);have N2:Hid (decide (A=B)=false):=t5 (NE.o (fun q=>e2 (Prod.mk.inj q).2));clear NX NE;go_wp2;refine wx9 ?_
      repeat (go_big_quiet_step (first | exact rfl))
      refine wpQuiet_nil ?_;intro w7 hw7;have B7:Hid (wBl wr w7):=aP hw7;clear hw7;go_wp2;go_ret;exact⟨by rw [N2.o];rfl,aJ BW.o B7.o lz9⟩
    ·have f1:(a1==b1')=false:=by simp [e1]
     have N2:Hid (decide (A=B)=false):=t5 (NE.o (fun q=>e1 (Prod.mk.inj q).1));clear NX NE;go_wp2;refine wx9 ?_
     repeat (go_big_quiet_step (first | exact rfl))
     refine wpQuiet_nil ?_;intro w7 hw7;have B7:Hid (wBl wr w7):=aP hw7;clear hw7;go_wp2;go_ret;exact⟨by rw [N2.o];rfl,aJ BW.o B7.o lz9⟩
   ·have i1:¬ (k:Int) < (A.length:Int):=by omega
    have EE:Hid (decide (A=B)=true):=aAR (by
     have e:=HT.o;rw [n8 (by omega),n8 (by have:=HNE.o;omega)] at e;exact e)
    go_wp2;go_ret;exact⟨by rw [EE.o];rfl,BW.o⟩
 ·have EE:Hid (decide (A=B)=false):=t5 (fun e=>hne (by rw [e]));have b1:(((A.length:Nat):Int) != ((B.length:Nat):Int))=true:=by simp;omega
  go_enter Tryz.func48,Tryz.ntmps48;go_wp2;go_ret;exact⟨by rw [EE.o];rfl,Below.refl _ _⟩
end
section
attribute [local go_sem] aS
def fF(A B:lIi):lIi:=A.flatMap fun a=>B.map (fC a)
theorem aF5{A B:lIi}{i:Nat}{a:Int × Int}(h:A[i]?=some a):fF (A.take (i+1)) B=fF (A.take i) B ++ B.map (fC a):=by
 obtain⟨hk,rfl⟩:=m7.1 h;rw [dN A i hk];unfold fF;rw [List.flatMap_append];simp only [aAZ,List.flatMap_nil,aBR]
theorem bA1{B:lIi}{j:Nat}{b a:Int × Int}(h:B[j]?=some b):(B.take (j+1)).map (fC a)=(B.take j).map (fC a) ++ [fC a b]:=by
 obtain⟨hk,rfl⟩:=m7.1 h;rw [dN B j hk,aBS]
 rfl
theorem bB4(A B:lIi)(c:Int):In (fF A B) c ↔ In A c/\In B c:=by
 unfold fF In fC;constructor
 ·rintro ⟨r,hr,h1,h2⟩;obtain⟨a,ha,hr⟩:=List.mem_flatMap.1 hr;obtain⟨b,hb,rfl⟩:=aAI.1 hr;simp only at h1 h2;exact⟨⟨a,ha,by omega,by omega⟩,b,hb,by omega,by omega⟩
 ·rintro ⟨⟨a,ha,h1,h2⟩,b,hb,h3,h4⟩;exact⟨_,List.mem_flatMap.2 ⟨a,ha,aAI.2 ⟨b,hb,rfl⟩⟩,by simp only;omega,by simp only;omega⟩
theorem aS5{A B:lIi}(fa:Fit A)(fb:Fit B):Fit (fF A B):=fun r hr=>by
 obtain⟨a,ha,hr⟩:=List.mem_flatMap.1 hr;obtain⟨b,hb,rfl⟩:=aAI.1 hr;have h1:=fa a ha;have h2:=fb b hb;simp only [fC];omega
theorem oJ(A B:lIi):(fF A B).length=A.length * B.length:=by
 induction A with
 | nil=>simp [fF]
 | cons a A ih=>simp only [fF,aAZ,o4,aAE,o5,Nat.succ_mul] at *;omega
theorem aE3{w:World}{va vb:Value}{A0 B0:lIi}(ha:ArgR w va A0)(hb:ArgR w vb B0)(fa:Fit A0)(fb:Fit B0)(hl1:A0.length+1<=8796093022208)(hl2:B0.length+1<=8796093022208)(hl:A0.length * B0.length+1<=8796093022208) :
  Calls Tryz.prog 88 #[va,vb] w (xT w (fun c=>In A0 c/\In B0 c) (A0.length * B0.length)):=by
 obtain⟨t0,ti,hz0,hz1,hz2⟩:=aV dB;have H:Hid ((ArgR w va A0/\Fit A0)/\ArgR w vb B0/\Fit B0):=⟨⟨ha,fa⟩,hb,fb⟩;clear ha hb fa fb;go_enter Tryz.func88,Tryz.ntmps88;go_upto_region 5 with first
  |(go_at_call 87;have hx:=X5.out;clear hx;have hih:=lE (H.out.2.1.kept X5.out.2.2.2) H.out.2.2 hl2;(with_reducible refine hih.mono ?_);clear hih;rintro e w6 ⟨v6,B,rfl,h1,h2,h3,h4⟩;obtain⟨qb,cb,rfl⟩:=h1.shape;have X6:Hid (RR w5.heap.size w6 (.slice qb B.length cb) B/\IsC B (In B0)/\B.length<=B0.length/\wBl w5 w6):=⟨h1,h2,h3,h4⟩;clear h1 h2 h3 h4)
  |(go_at_call 87;have hih:=lE H.out.1.1 H.out.1.2 hl1;(with_reducible refine hih.mono ?_);clear hih;rintro e w5 ⟨v5,A,rfl,h1,h2,h3,h4⟩;obtain⟨qa,ca,rfl⟩:=h1.shape;have X5:Hid (RR w.heap.size w5 (.slice qa A.length ca) A/\IsC A (In A0)/\A.length<=A0.length/\wBl w w5):=⟨h1,h2,h3,h4⟩;clear h1 h2 h3 h4)
 rename World=>W1;have hla:=X5.out.2.2.1;have hlb:=X6.out.2.2.1;have HA:Hid (∀ (i:Nat) (r:Int × Int),A[i]?=some r->∃ g off,qa=some ⟨g,off,none⟩/\g < W1.heap.size/\W1.cell? ⟨g,off+2 * i,none⟩=some (.I r.1)/\W1.cell? ⟨g,off+2 * i+1,none⟩=some (.I r.2)):=by
  obtain⟨q',cap',e,-,-,hc⟩:=(X5.out.1.kept X6.out.2.2.2).arg.slice;cases e;exact hc
 have HB:Hid (∀ (i:Nat) (r:Int × Int),B[i]?=some r->∃ g off,qb=some ⟨g,off,none⟩/\g < W1.heap.size/\W1.cell? ⟨g,off+2 * i,none⟩=some (.I r.1)/\W1.cell? ⟨g,off+2 * i+1,none⟩=some (.I r.2)):=by
  obtain⟨q',cap',e,-,-,hc⟩:=X6.out.1.arg.slice;cases e;exact hc
 have LP:Hid (∀ i,(fF (A.take i) B).length+B.length * (A.length - i)<=A0.length * B0.length\/A.length < i):=fun i=>by
  rcases Nat.lt_or_ge A.length i with h | h
  ·exact .inr h
  ·left
   rw [oJ,aAA,Nat.min_eq_left h,aAU B.length,<- Nat.add_mul,Nat.add_sub_cancel' h];exact Nat.mul_le_mul hla hlb
 have BW:Hid (wBl w W1):=aJ X5.out.2.2.2 X6.out.2.2.2 lz9;go_loopw [7,8] (fun ov i wr=>∃ k:Nat,k<=A.length/\i=.I k/\RR W1.heap.size wr ov (fF (A.take k) B)/\wBl W1 wr) (fun _ i _=>A.length - (intOf i).toNat)
 case atStart=>exact⟨0,o9 _,rfl,RR.nil _ _,Below.refl _ _⟩
 case round=>
  obtain⟨k,hk,rfl,hrr,hb⟩:=hrel;have RO:Hid (RR W1.heap.size wr u7 (fF (A.take k) B)):=hrr;have BB:Hid (wBl W1 wr):=hb;clear hrr hb;by_cases hlt:k < A.length
  ·obtain⟨a,ea⟩:∃ r,A[k]?=some r:=⟨_,i9 hlt⟩;obtain⟨ga,oa,rfl,hga,xa1,xa2⟩:=HA.out k _ ea;have PN:Hid (fF (A.take (k+1)) B=fF (A.take k) B ++ B.map (fC a)):=aF5 ea;rw [aAU] at xa1 xa2;have XA:Hid (W1.cell? ⟨ga,oa+k * 2,none⟩=some (.I a.1)/\W1.cell? ⟨ga,oa+k * 2+1,none⟩=some (.I a.2)/\ga < W1.heap.size):=⟨xa1,xa2,hga⟩;have LK:Hid ((fF (A.take k) B).length+B.length+1<=8796093022208):=aC (by
    rcases LP.out (k+1) with h | h
    ·have:=PN.out;rw [this,o4,aAE] at h;omega
    ·omega)
   have i0:(0:Int)<=(k:Int):=by omega
   have i1:(k:Int) < (A.length:Int):=by omega
   clear xa1 xa2 hga ea;rename World=>W2;generalize fF (A.take k) B=P at *;go_wp2;go_loopw [7,9] (fun ov i wr=>∃ j:Nat,j<=B.length/\i=.I j/\RR W1.heap.size wr ov (P ++ (B.take j).map (fC a))/\wBl W1 wr) (fun _ i _=>B.length - (intOf i).toNat)
   case atStart=>exact⟨0,o9 _,rfl,by simpa using RO.out,BB.out⟩
   case round=>
    clear RO BB;obtain⟨j,hj,rfl,hrr,hb⟩:=hrel;obtain⟨qo,co,e3⟩:=hrr.shape;subst e3;obtain⟨O,hO⟩:∃ O,P ++ (B.take j).map (fC a)=O:=⟨_,rfl⟩;have EO:Hid (P ++ (B.take j).map (fC a)=O):=hO;rw [hO] at hrr ⊢;have RO:Hid (RR W1.heap.size wr (.slice qo O.length co) O):=hrr;have BB:Hid (wBl W1 wr):=hb;have hbs:=hb.size;have hol:O.length+1<=8796093022208:=(by have:=LK.out;rw [<- hO,o4,aAE,aAA];omega);clear hrr hb hO;by_cases hjlt:j < B.length
    ·obtain⟨b,eb⟩:∃ r,B[j]?=some r:=⟨_,i9 hjlt⟩;obtain⟨gb,ob,rfl,hgb,xb1,xb2⟩:=HB.out j _ eb;have MN:Hid (P ++ (B.take (j+1)).map (fC a)=O ++ [fC a b]):=aC (by rw [bA1 eb,<- aAM,EO.out]);rw [aAU] at xb1 xb2;have c1:=(BB.out.cell (p:=⟨ga,oa+k * 2,none⟩) XA.out.2.2).trans XA.out.1;have c2:=(BB.out.cell (p:=⟨ga,oa+k * 2+1,none⟩) XA.out.2.2).trans XA.out.2.1;have c3:=(BB.out.cell (p:=⟨gb,ob+j * 2,none⟩) hgb).trans xb1;have c4:=(BB.out.cell (p:=⟨gb,ob+j * 2+1,none⟩) hgb).trans xb2;have s1:ga < wr.heap.size:=n9 XA.out.2.2 hbs;have s2:gb < wr.heap.size:=n9 hgb hbs;obtain⟨a1,ha1⟩:∃ x,a.1=x:=⟨_,rfl⟩;obtain⟨a2,ha2⟩:∃ x,a.2=x:=⟨_,rfl⟩;obtain⟨b1,hb1⟩:∃ x,b.1=x:=⟨_,rfl⟩;obtain⟨b2,hb2⟩:∃ x,b.2=x:=⟨_,rfl⟩;rw [ha1] at c1;rw [ha2] at c2;rw [hb1] at c3;rw [hb2] at c4;obtain⟨cr,hcr⟩:∃ cr,fC a b=cr:=⟨_,rfl⟩;have hmx:∀ t ty w,(Builtin.max_ t ty #[.I a1,.I b1]).run Tryz.prog w=.ok (.I cr.1) w:=fun t ty w=>by rw [iZ,<- hcr,<- ha1,<- hb1];rfl
     have hmn:∀ t ty w,(Builtin.min_ t ty #[.I a2,.I b2]).run Tryz.prog w=.ok (.I cr.2) w:=fun t ty w=>by rw [oN,<- hcr,<- ha2,<- hb2];rfl
     have MN2:Hid (P ++ (B.take (j+1)).map (fC a)=O ++ [(cr.1,cr.2)]):=aC (by rw [MN.out,hcr]);have j0:(0:Int)<=(j:Int):=(by omega);have j1:(j:Int) < (B.length:Int):=(by omega);have RD:Hid (RR W1.heap.size wr.drew (.slice qo O.length co) O):=aBY RO.out;have BD:Hid (wBl W1 wr.drew):=BB.out.drew;have ne1:=World.new_ne wr _ c1;have ne3:=World.new_ne wr _ c3;have XK:Hid (W1.cell? ⟨ga,oa+k * 2,none⟩=some (.I a1)/\W1.cell? ⟨ga,oa+k * 2+1,none⟩=some (.I a2)/\W1.cell? ⟨gb,ob+j * 2,none⟩=some (.I b1)/\W1.cell? ⟨gb,ob+j * 2+1,none⟩=some (.I b2)/\gb < W1.heap.size):=⟨by rw [<- ha1];exact XA.out.1,by rw [<- ha2];exact XA.out.2.1,by rw [<- hb1];exact xb1,by rw [<- hb2];exact xb2,hgb⟩;clear xb1 xb2 eb hgb MN ha1 ha2 hb1 hb2 hcr;have QC:Hid (∀ w',wBl W1 w'->w'.cell? ⟨ga,oa+k * 2,none⟩=some (.I a1)/\w'.cell? ⟨ga,oa+k * 2+1,none⟩=some (.I a2)/\w'.cell? ⟨gb,ob+j * 2,none⟩=some (.I b1)/\w'.cell? ⟨gb,ob+j * 2+1,none⟩=some (.I b2)):=fun w' hb=>⟨(hb.cell (p:=⟨ga,oa+k * 2,none⟩) XA.out.2.2).trans XK.out.1,(hb.cell (p:=⟨ga,oa+k * 2+1,none⟩) XA.out.2.2).trans XK.out.2.1,(hb.cell (p:=⟨gb,ob+j * 2,none⟩) XK.out.2.2.2.2).trans XK.out.2.2.1,(hb.cell (p:=⟨gb,ob+j * 2+1,none⟩) XK.out.2.2.2.2).trans XK.out.2.2.2.1⟩;clear c1 c2 c3 c4;go_wp2;refine wp_region_held_drew (S:=fun w'=>wBl W1 w') (by kernel_rfl) BD.out (fun hHeld=>?_);refine aCO (v:=?_) 0 ?_ ?_;rotate_left
     ·intro wz hSw;obtain⟨q1,q2,q3,q4⟩:=QC.out wz hSw;clear hSw;go_simp;try with_reducible rfl
     dsimp only [Act.put,g9,g4,g8];simp only [f8,i8,i7];refine aCO (v:=?_) 1 ?_ ?_;rotate_left
     ·intro wz hSw;obtain⟨q1,q2,q3,q4⟩:=QC.out wz hSw;clear hSw;go_simp;try with_reducible rfl
     dsimp only [Act.put,g9,g4,g8];simp only [f8,i8,i7];refine aCO (v:=?_) 2 ?_ ?_;rotate_left
     ·intro wz hSw;obtain⟨q1,q2,q3,q4⟩:=QC.out wz hSw;clear hSw;go_simp;try with_reducible rfl
     dsimp only [Act.put,g9,g4,g8];simp only [f8,i8,i7];refine aCO (v:=?_) 3 ?_ ?_;rotate_left
     ·intro wz hSw;obtain⟨q1,q2,q3,q4⟩:=QC.out wz hSw;clear hSw;go_simp;try with_reducible rfl
     dsimp only [Act.put,g9,g4,g8];simp only [f8,i8,i7];refine aCO (v:=?_) 4 ?_ ?_;rotate_left
     ·intro wz hSw;obtain⟨q1,q2,q3,q4⟩:=QC.out wz hSw;clear hSw;go_simp;try with_reducible rfl
     dsimp only [Act.put,g9,g4,g8];simp only [f8,i8,i7];refine aCO (v:=?_) 5 ?_ ?_;rotate_left
     ·intro wz hSw;obtain⟨q1,q2,q3,q4⟩:=QC.out wz hSw;clear hSw;go_simp;try with_reducible rfl
     dsimp only [Act.put,g9,g4,g8];simp only [f8,i8,i7];refine aCO (v:=?_) 6 ?_ ?_;rotate_left
     ·intro wz hSw;obtain⟨q1,q2,q3,q4⟩:=QC.out wz hSw;clear hSw;go_simp;try with_reducible rfl
     dsimp only [Act.put,g9,g4,g8];simp only [f8,i8,i7];refine aCO (v:=?_) 7 ?_ ?_;rotate_left
     ·intro wz hSw;obtain⟨q1,q2,q3,q4⟩:=QC.out wz hSw;clear hSw;go_simp;try with_reducible rfl
     dsimp only [Act.put,g9,g4,g8];simp only [f8,i8,i7];refine aCO (v:=?_) 8 ?_ ?_;rotate_left
     ·intro wz hSw;obtain⟨q1,q2,q3,q4⟩:=QC.out wz hSw;clear hSw;go_simp;try with_reducible rfl
     dsimp only [Act.put,g9,g4,g8];simp only [f8,i8,i7];refine aCO (v:=?_) 9 ?_ ?_;rotate_left
     ·intro wz hSw;obtain⟨q1,q2,q3,q4⟩:=QC.out wz hSw;clear hSw;go_simp;try with_reducible rfl
     dsimp only [Act.put,g9,g4,g8];simp only [f8,i8,i7];refine aCO (v:=?_) 10 ?_ ?_;rotate_left
     ·intro wz hSw;obtain⟨q1,q2,q3,q4⟩:=QC.out wz hSw;clear hSw;go_simp;try with_reducible rfl
     dsimp only [Act.put,g9,g4,g8];simp only [f8,i8,i7];refine aCO (v:=?_) 11 ?_ ?_;rotate_left
     ·intro wz hSw;obtain⟨q1,q2,q3,q4⟩:=QC.out wz hSw;clear hSw;go_simp;try with_reducible rfl
     dsimp only [Act.put,g9,g4,g8];simp only [f8,i8,i7];refine aCO (v:=?_) 12 ?_ ?_;rotate_left
     ·intro wz hSw;obtain⟨q1,q2,q3,q4⟩:=QC.out wz hSw;clear hSw;go_simp;try with_reducible rfl
     dsimp only [Act.put,g9,g4,g8];simp only [f8,i8,i7];refine aCO (v:=?_) 13 ?_ ?_;rotate_left
     ·intro wz hSw;obtain⟨q1,q2,q3,q4⟩:=QC.out wz hSw;clear hSw;go_simp;try with_reducible rfl
     dsimp only [Act.put,g9,g4,g8];simp only [f8,i8,i7];refine aCO (v:=?_) 14 ?_ ?_;rotate_left
     ·intro wz hSw;obtain⟨q1,q2,q3,q4⟩:=QC.out wz hSw;clear hSw;go_simp;try with_reducible rfl
     dsimp only [Act.put,g9,g4,g8];simp only [f8,i8,i7];refine aCO (v:=?_) 15 ?_ ?_;rotate_left
     ·intro wz hSw;obtain⟨q1,q2,q3,q4⟩:=QC.out wz hSw;clear hSw;go_simp;try with_reducible rfl
     dsimp only [Act.put,g9,g4,g8];simp only [f8,i8,i7];refine aCO (v:=?_) 16 ?_ ?_;rotate_left
     ·intro wz hSw;obtain⟨q1,q2,q3,q4⟩:=QC.out wz hSw;clear hSw;go_simp;try with_reducible rfl
     dsimp only [Act.put,g9,g4,g8];simp only [f8,i8,i7];refine aCO (v:=?_) 17 ?_ ?_;rotate_left
     ·intro wz hSw;obtain⟨q1,q2,q3,q4⟩:=QC.out wz hSw;clear hSw;go_simp;try with_reducible rfl
     dsimp only [Act.put,g9,g4,g8];simp only [f8,i8,i7];refine aCO (v:=?_) 18 ?_ ?_;rotate_left
     ·intro wz hSw;obtain⟨q1,q2,q3,q4⟩:=QC.out wz hSw;clear hSw;go_simp;try with_reducible rfl
     dsimp only [Act.put,g9,g4,g8];simp only [f8,i8,i7];refine aCO (v:=?_) 19 ?_ ?_;rotate_left
     ·intro wz hSw;obtain⟨q1,q2,q3,q4⟩:=QC.out wz hSw;clear hSw;go_simp;try with_reducible rfl
     dsimp only [Act.put,g9,g4,g8];simp only [f8,i8,i7];refine aCO (v:=?_) 20 ?_ ?_;rotate_left
     ·intro wz hSw;obtain⟨q1,q2,q3,q4⟩:=QC.out wz hSw;clear hSw;go_simp;try with_reducible rfl
     dsimp only [Act.put,g9,g4,g8];simp only [f8,i8,i7];refine aCO (v:=?_) 21 ?_ ?_;rotate_left
     ·intro wz hSw;obtain⟨q1,q2,q3,q4⟩:=QC.out wz hSw;clear hSw;go_simp;try with_reducible rfl
     dsimp only [Act.put,g9,g4,g8];simp only [f8,i8,i7];refine aCO (v:=?_) 22 ?_ ?_;rotate_left
     ·intro wz hSw;obtain⟨q1,q2,q3,q4⟩:=QC.out wz hSw;clear hSw;go_simp;try with_reducible rfl
     dsimp only [Act.put,g9,g4,g8];simp only [f8,i8,i7];refine aCO (v:=?_) 23 ?_ ?_;rotate_left
     ·intro wz hSw;obtain⟨q1,q2,q3,q4⟩:=QC.out wz hSw;clear hSw;go_simp;try with_reducible rfl
     dsimp only [Act.put,g9,g4,g8];simp only [f8,i8,i7];refine wpAnyH_ready (rs:=[24]) (by kernel_rfl) (by simp) ?_;refine AllReadyH.cons rfl (fun K hK=>?_) AllReadyH.nil;go_simp;refine hK.out _ _ (BD.out.alloc (by simp;omega) _) (fun hHeld2=>?_);clear hK K;refine wpAnyH_ready (rs:=[25]) (by kernel_rfl) (by simp) ?_;refine AllReadyH.cons rfl (fun K hK=>?_) AllReadyH.nil;refine aZ rfl _ _ 22 rfl W1.heap.size 92 t0 (.agg #[.I 0,.I 0]) 2 16 bG ti hz0 hz1 hz2 rfl (by decide) (.slice qo O.length co) O.length (aT O) (by simp [Act.eval]) (o8 RD.out (.cells #[.I cr.1,.I cr.2] 92)) ⟨wr.heap.size,0,none⟩ 1 1 [.I cr.1,.I cr.2] (by simp [Act.eval]) rfl (kW _ _ _ _) (by simp [Value.oneCell']) (by unfold maxLen;omega) (by omega) (by simp;omega) ?_;intro v' w6 hown' hgrow hblk;obtain⟨g6,cap6,rfl⟩:=aL hown' (aAL _);have A6:Hid (RR W1.heap.size w6 (.slice (some ⟨g6,0,none⟩) (O.length+1) cap6) (O ++ [(cr.1,cr.2)])):=pZ hown';have B6:Hid (wBl W1 w6):=cW (BD.out.alloc (by simp;omega) _) (o8 RD.out _) hgrow;clear hown' hgrow hblk;refine hK.out _ _ B6.out (fun hHeld3=>?_);clear hK K;refine wpAnyH_ready (rs:=[26]) (by kernel_rfl) (by simp) ?_;refine AllReadyH.cons rfl (fun K hK=>?_) AllReadyH.nil;go_simp;refine hK.out _ _ B6.out (fun hHeld4=>?_);clear hK K;refine wpAnyH_done (by kernel_rfl) ?_ _
     all_goals (
      go_wp2;go_roundw
      case rel=>exact⟨j+1,by omega,by go_num,mC MN2.out.symm A6.out,B6.out⟩
      case measure=>simp [intOf];omega)
    ·have j1:¬ (j:Int) < (B.length:Int):=by omega
     have EE:Hid (fF (A.take (k+1)) B=O):=aC (by rw [PN.out,<- EO.out,n8 (by omega)]);go_wp2;go_roundw
     case rel=>exact⟨k+1,by omega,by go_num,mC EE.out.symm RO.out,BB.out⟩
     case measure=>simp [intOf];omega
  ·have i1:¬ (k:Int) < (A.length:Int):=by omega
   have E:Hid (A.take k=A):=aC (n8 (by omega));rw [E.out] at RO;have LN:Hid ((fF A B).length<=A0.length * B0.length):=aC (by rw [oJ];exact Nat.mul_le_mul hla hlb);go_wp2_with (go_at_call 87;refine(lE RO.out.arg (aS5 X5.out.2.1.fit X6.out.2.1.fit) (by have:=LN.out;omega)).mono ?_;rintro e w7 ⟨v7,C,rfl,h1,h2,h3,h4⟩;have X7:Hid (RR wr.heap.size w7 v7 C/\IsC C (In (fF A B))/\C.length<=(fF A B).length/\wBl wr w7):=⟨h1,h2,h3,h4⟩;clear h1 h2 h3 h4)
   go_ret;have BZ:=aJ BW.out BB.out lz9;refine⟨_,_,rfl,X7.out.1.mono BZ.size,X7.out.2.1.to fun c=>?_,m8 X7.out.2.2.1 LN.out,aJ BZ X7.out.2.2.2 lz9⟩;rw [bB4,X5.out.2.1.mem,X6.out.2.1.mem]
end
section
attribute [local go_sem] aS
structure LW(W1 wr:World)(rb:Nat)(l hi:Int)(ov:Value)(L:lIi):Prop where
 own:RR W1.heap.size wr ov L
 box:wr.heap[rb]?=some (.cells #[.I l,.I hi] 92 (0,0))
 ne:ov.ownBlock≠some rb
 bel:wBl W1 wr
 new:W1.heap.size<=rb
end
end Go.Proofs.YtdgfpiekjigfnaaGreatDoor
