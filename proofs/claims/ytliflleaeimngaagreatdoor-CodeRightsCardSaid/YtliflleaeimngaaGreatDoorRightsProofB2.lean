/-
  Parts of the proof.
-/
import Derived.Test.YtliflleaeimngaaGreatDoorRightsProofA0
import Derived.Test.YtliflleaeimngaaGreatDoorRightsProofB0
import Derived.BigQuiet
import Derived.Lib.TrailingZeros
import Derived.Laws.Bits64b
import Derived.Test.YtliflleaeimngaaGreatDoorRightsProofB1
import Derived.RangeFuncNested
import Derived.RangeFuncBound
import Derived.RangeFuncCalls
import Derived.RangeFuncLeaves
import Derived.RangeFuncBox
import Derived.Shelf.Abstract
import Derived.Shelf.RegionOpen
import Derived.OwnWalkIn
import Derived.TacticsInMore
import Derived.LoopNIn
import Derived.LoopIn
import Derived.Maps.AppendAt
import Derived.Test.YtliflleaeimngaaGreatDoorProg
import Derived.WalkKit
import Derived.WalkSpells
import Derived.WalkLawsBesides
import Derived.Below
import Derived.Laws.AppendOwn
import Derived.Laws.MakeOwn
import Derived.Laws.CopyOwn
import Derived.ProofKit
import Derived.OpenShut
import Derived.Stop.Joined
import Derived.ChangeOld
import Derived.ChangeSlices
import Derived.Carry
import Derived.OwnWalk
import Derived.Deep.RegionLaw
import Derived.Deep.RegionWith
import Derived.Deep.DeepCutAuto
import Derived.Deep.MidRow
import Derived.Lib.Builder
import Derived.Lib.AppendStr
import Derived.Lib.UnsafeStr
import Derived.Lib.OthersKept
import Derived.Lib.FrozenHead
import Derived.Laws.Externs
import Derived.Shelf.RegionOpenPlain
set_option linter.unusedSimpArgs false
set_option maxRecDepth 100000
set_option maxHeartbeats 8000000
namespace Go.Proofs.YtliflleaeimngaaGreatDoor
open Go Go.RowKit
def gE(W:World):Type:={ w:World // Below W.heap.size W w }
theorem gB{P:Program}{id:Nat}{Q:Exit->Act->World->Prop}{a:Act}{w:World}{l:List Oper}(hm:P.follows .mixedOrders=true)(hB:Region.lexB .any l.toArray=true)
  (h:wpQuiet P l.toArray (fun w'=>∃ x:gE w,w'=x.val) (fun a'=>∀ w',(∃ x:gE w,w'=x.val)->Q .normal a' w') l a):(Code.region id l.toArray true).wp P Q a w:=
 wp_region_quiet (C:=fun w'=>∃ x:gE w,w'=x.val) hm hB ⟨⟨w.drew,(Below.refl _ _).drew⟩,rfl⟩ (by simpa using h)
theorem gL{P:Program}{f:FuncId}{args:Array Value}{W:World}{x:gE W}{v:Value}
  (h:Calls P f args x.val fun e w'=>e=.returned v/\Below x.val.heap.size x.val w'):Calls P f args x.val fun e w''=>e=.returned v/\∃ y:gE W,w''=y.val:=
 h.mono fun _ w' ⟨he,hb⟩=>⟨he,⟨w',x.2.trans (hb.mono x.2.size)⟩,rfl⟩
theorem lK{W:World}(x:gE W)(b o:Nat)(h:b<W.heap.size):x.val.cell? ⟨b,o,none⟩=W.cell? ⟨b,o,none⟩:=x.2.cell (p:=⟨b,o,none⟩) h
def z1_Tab(w:World):Prop:=2<w.heap.size/\∀ j,j<64->w.cell? ⟨2,j,none⟩=some (.int .u8 (Lib.deBruijn64tab.getD j 0))
theorem z1_Tab.below{w w':World}(h:z1_Tab w)(hb:Below w.heap.size w w'):z1_Tab w':=
 ⟨j5 h.1 hb.size,fun j hj=>(hb.cell (p:=⟨2,j,none⟩) h.1).trans (h.2 j hj)⟩
theorem mT(x k idx:Nat)(w:World)(hx0:((x:Int)==0)=false)
  (key:IntKind.u64.wrap (bits BinOp.and IntKind.u64 (x:Int) (IntKind.u64.wrap (-(x:Int)))*285870213051353865)/288230376151711744=(idx:Int))
  (hi:idx<64) (hk:k<64) (hcell:w.cell? ⟨2,idx,none⟩=some (.int .u8 k)) :
  Calls Tryz.prog 124 #[.int .u64 x] w fun e w'=>e=.returned (.int .i64 k)/\w'=w:=by
 go_enter Tryz.func124,Tryz.ntmps124
 go_wp2_with (simp only [key])
 go_ret
 exact⟨rfl,rfl⟩
theorem qW(x a:Nat)(hx:x<18446744073709551616)(hx0:x≠0)(hlow:x &&& (18446744073709551616-x)=a) :
  IntKind.u64.wrap (bits BinOp.and IntKind.u64 (x:Int) (IntKind.u64.wrap (-(x:Int)))*285870213051353865)/288230376151711744=((a*285870213051353865%18446744073709551616/288230376151711744:Nat):Int):=by
 have e1:IntKind.u64.wrap (-(x:Int))=((18446744073709551616-x:Nat):Int):=by rw [IntKind.wrap_u64];omega
 rw [e1,bits_and_u64_nat x _ hx (by omega),hlow,IntKind.wrap_u64]
 omega
def eK(v:Int):Int:=(Lib.ctz 64 v.toNat:Int)
theorem fC(v:Int)(w:World)(h0:(v != 0)=true)(h1:0<=v)(h2:v<18446744073709551616)(hT:z1_Tab w) :
  Calls Tryz.prog 124 #[.int .u64 v] w fun e w'=>e=.returned (.int .i64 (eK v))/\w'=w:=by
 obtain⟨x,rfl⟩:=p7 h1
 have hx0:x≠0:=by rintro rfl;simp at h0
 have hx:x<2 ^ 64:=by omega
 obtain⟨hlow,hk⟩:=Lib.lowest_bit 64 x hx0 hx
 obtain⟨hi,htab⟩:=Lib.deBruijn64_at _ hk
 have hcell:=hT.2 _ hi
 rw [htab] at hcell
 exact mT x _ _ w (by simpa using hx0) (qW x _ (by omega) hx0 hlow) hi hk hcell
theorem jY(v:Int)(h0:v≠0)(h1:0<=v)(h2:v<18446744073709551616):0<=eK v/\eK v<64:=by
 obtain⟨x,rfl⟩:=p7 h1
 have hx0:x≠0:=by rintro rfl;simp at h0
 obtain⟨_,hk⟩:=Lib.lowest_bit 64 x hx0 (by omega)
 unfold eK;simp;omega
theorem mU(x:BitVec 64)(h:x.toNat≠0):x.getLsbD (Lib.ctz 64 x.toNat)=true/\∀ j,j<Lib.ctz 64 x.toNat->x.getLsbD j=false:=by
 have hlt:=x.isLt
 obtain⟨m,hm,hk⟩:=Lib.ctzFrom_spec 64 x.toNat (by omega) hlt
 have e:Lib.ctz 64 x.toNat=Lib.ctzFrom 64 x.toNat:=by unfold Lib.ctz;rw [if_neg h]
 rw [e]
 generalize hz:Lib.ctzFrom 64 x.toNat=k at *
 have tb:∀ j,x.getLsbD j=(2 ^ k*(2*m+1)).testBit j:=fun j=>by rw [<- hm];rfl
 refine⟨?_,fun j hj=>?_⟩
 ·rw [tb,Nat.testBit_two_pow_mul];simp
 ·rw [tb,Nat.testBit_two_pow_mul];simp;omega
section
attribute [local go_sem] hQ hH gZ gY dM lK
def dA(s:aQ)(f:Int):Option Nat:=(List.range 256).find? fun n=>decide (f<=(n:Int))&&s.getLsbD n
def cO(s:aQ)(f:Int):Int:=match dA s f with | some n=>(n:Int) | none=>0
def cP(s:aQ)(f:Int):Bool:=(dA s f).isSome
theorem gM(a b:aQ)(n:Nat):(aW a b).getLsbD n=(a.getLsbD n && !b.getLsbD n):=by
 unfold aW
 by_cases h:n<256
 ·simp [h]
 ·have:a.getLsbD n=false:=BitVec.getLsbD_of_ge _ _ (by omega)
  simp [this]
theorem eW(s:aQ)(i n:Nat)(hn:n<64):(s.extractLsb' (64*i) 64).getLsbD n=s.getLsbD (64*i+n):=by
 rw [BitVec.getLsbD_extractLsb'];simp [hn]
theorem fK{p:Nat->Bool}{N k:Nat}(hk:k<N)(hp:p k=true)(hl:∀ j,j<k->p j=false):(List.range N).find? p=some k:=by
 rw [List.find?_range_eq_some]
 exact⟨hp,by simpa using hk,fun j hj=>by simp [hl j hj]⟩
theorem fQ(s:aQ)(i:Nat)(h:aB s i=0)(n:Nat)(hn:n<64):s.getLsbD (64*i+n)=false:=by
 rw [<- eW s i n hn]
 have e:s.extractLsb' (64*i) 64=0#64:=BitVec.eq_of_toNat_eq (by unfold aB at h;rw [BitVec.toNat_ofNat];omega)
 rw [e];simp
theorem lE(s:aQ)(f:Int)(i:Nat)(hi:i<4)(h0:∀ j,j<i->aB (aW s (aV f)) j=0)(h1:aB (aW s (aV f)) i≠0) :
  dA s f=some (64*i+Lib.ctz 64 (aB (aW s (aV f)) i).toNat):=by
 obtain⟨t,ht⟩:∃ t,t=aW s (aV f):=⟨_,rfl⟩
 rw [<- ht] at h0 h1 ⊢
 have hx:(aB t i).toNat=(t.extractLsb' (64*i) 64).toNat:=by unfold aB;simp only [o6]
 rw [hx]
 have hne:(t.extractLsb' (64*i) 64).toNat≠0:=fun h=>h1 (by unfold aB;omega)
 obtain⟨z1_b1,z1_b2⟩:=mU _ hne
 have hk:Lib.ctz 64 (t.extractLsb' (64*i) 64).toNat<64:=(Lib.lowest_bit 64 _ hne (BitVec.isLt _)).2
 generalize Lib.ctz 64 (t.extractLsb' (64*i) 64).toNat=k at *
 have tb:∀ n:Nat,n<256->(decide (f<=(n:Int))&&s.getLsbD n)=t.getLsbD n:=fun n hn=>by
  rw [ht,gM,dE];by_cases h:f<=(n:Int) <;> simp [h,hn] <;> omega
 refine fK (by omega) ?_ ?_
 ·rw [tb _ (by omega),<- eW t i k hk];exact z1_b1
 ·intro j hj
  rw [tb j (by omega)]
  by_cases hji:j/64=i
  ·have:j=64*i+j%64:=by omega
   rw [this,<- eW t i _ (by omega)]
   exact z1_b2 _ (by omega)
  ·have:j=64*(j/64)+j%64:=by omega
   rw [this]
   exact fQ t _ (h0 _ (by omega)) _ (by omega)
theorem kE(s:aQ)(f:Int)(h0:∀ j,j<4->aB (aW s (aV f)) j=0):dA s f=none:=by
 unfold dA
 rw [List.find?_eq_none]
 intro n hn
 have hn':n<256:=by simpa using hn
 have:(decide (f<=(n:Int))&&s.getLsbD n)=(aW s (aV f)).getLsbD n:=by
  rw [gM,dE];by_cases h:f<=(n:Int) <;> simp [h,hn'] <;> omega
 rw [this,show n=64*(n/64)+n%64 by omega,fQ _ _ (h0 _ (by omega)) _ (by omega)]
 simp
theorem dY(s:aQ)(f:Int)(i:Nat)(hi:i<4)(h0:∀ j,j<i->aB (aW s (aV f)) j=0)(h1:aB (aW s (aV f)) i≠0) :
  cO s f=64*(i:Int)+eK (aB (aW s (aV f)) i)/\cP s f=true:=by
 unfold cO cP eK
 rw [lE s f i hi h0 h1]
 simp
theorem gJ(s:aQ)(f:Int)(w:World)(hT:z1_Tab w) :
  Calls Tryz.prog 107 #[.agg #[.int .u64 (aB (s) 0),.int .u64 (aB (s) 1),.int .u64 (aB (s) 2),.int .u64 (aB (s) 3)],.int .i64 f] w fun e w'=>e=.returned (.tuple #[.int .i64 (cO s f),.bool (cP s f)])/\Below w.heap.size w w':=by
 have HT:Hid (z1_Tab w):=hT
 clear hT
 go_enter Tryz.func107,Tryz.ntmps107
 go_wp2
 refine gB (by kernel_rfl) (by kernel_rfl) ?_
 repeat (go_big_quiet_step (first | exact rfl |(go_at_call 123;exact gL (eP _ _)) |(go_at_call 122;exact gL (gK _ _ _))))
 refine wpQuiet_nil ?_
 rintro _ ⟨x,rfl⟩
 have hb:Below w.heap.size w x.val:=((Below.refl _ _).alloc (j9 _) _).trans (x.2.mono (by simp))
 obtain⟨w1,hw1⟩:∃ w1,x.val=w1:=⟨_,rfl⟩
 rw [hw1] at hb ⊢
 have HB:Hid (Below w.heap.size w w1):=hb
 have H1:Hid (z1_Tab w1):=HT.o.below hb
 clear hb hw1 x HT
 obtain⟨T,hT'⟩:∃ T,aW s (aV f)=T:=⟨_,rfl⟩
 have HE:Hid (aW s (aV f)=T):=hT'
 simp only [hT']
 clear hT'
 have hz:∀ i,aB T i=0->(aB T i != 0)=false:=fun i h=>by simp [h]
 have hn:∀ i,¬ aB T i=0->(aB T i != 0)=true/\(0<=aB T i/\aB T i<18446744073709551616)/\0<=eK (aB T i)/\eK (aB T i)<64:=fun i h=>⟨by simp [h],eH T i,jY _ h (eH T i).1 (eH T i).2⟩
 have HZ:Hid (∀ i,aB T i=0->(aB T i != 0)=false):=hz
 have HN:Hid (∀ i,¬ aB T i=0->(aB T i != 0)=true/\(0<=aB T i/\aB T i<18446744073709551616)/\0<=eK (aB T i)/\eK (aB T i)<64):=hn
 clear hz hn
 by_cases g0:aB T 0=0
 case neg=>
  obtain⟨k0,⟨p0,q0⟩,t0,u0⟩:=HN.o 0 g0
  have G0:Hid (¬ aB T 0=0):=g0
  clear g0
  go_wp2
  refine bI 5 ?_
  refine aM ?_
  go_wp2_with (go_at_call 124;refine(fC _ _ k0 p0 q0 H1.o).mono ?_;rintro e w' ⟨rfl,rfl⟩)
  go_ret2
  have hh:=dY s f 0 (by decide) (fun j hj=>by omega) (by rw [HE.o];exact G0.o)
  rw [HE.o] at hh
  rw [hh.1,hh.2]
  exact⟨by simp,HB.o⟩
 have k0:=HZ.o 0 g0
 have G0:Hid (aB T 0=0):=g0
 clear g0
 by_cases g1:aB T 1=0
 case neg=>
  obtain⟨k1,⟨p0,q0⟩,t0,u0⟩:=HN.o 1 g1
  have G1:Hid (¬ aB T 1=0):=g1
  clear g1
  go_wp2
  refine bI 5 ?_
  refine aM ?_
  go_wp2
  refine aM ?_
  go_wp2_with (go_at_call 124;refine(fC _ _ k1 p0 q0 H1.o).mono ?_;rintro e w' ⟨rfl,rfl⟩)
  go_ret2
  have hh:=dY s f 1 (by decide) (fun j hj=>by rw [HE.o];obtain rfl:j=0:=(by omega);exact G0.o) (by rw [HE.o];exact G1.o)
  rw [HE.o] at hh
  rw [hh.1,hh.2]
  exact⟨by simp,HB.o⟩
 have k1:=HZ.o 1 g1
 have G1:Hid (aB T 1=0):=g1
 clear g1
 by_cases g2:aB T 2=0
 case neg=>
  obtain⟨k2,⟨p0,q0⟩,t0,u0⟩:=HN.o 2 g2
  have G2:Hid (¬ aB T 2=0):=g2
  clear g2
  go_wp2
  refine bI 5 ?_
  refine aM ?_
  go_wp2
  refine aM ?_
  go_wp2
  refine aM ?_
  go_wp2_with (go_at_call 124;refine(fC _ _ k2 p0 q0 H1.o).mono ?_;rintro e w' ⟨rfl,rfl⟩)
  go_ret2
  have hh:=dY s f 2 (by decide) (fun j hj=>by
   rw [HE.o]
   match j,hj with
   | 0,_=>exact G0.o
   | 1,_=>exact G1.o) (by rw [HE.o];exact G2.o)
  rw [HE.o] at hh
  rw [hh.1,hh.2]
  exact⟨by simp,HB.o⟩
 have k2:=HZ.o 2 g2
 have G2:Hid (aB T 2=0):=g2
 clear g2
 by_cases g3:aB T 3=0
 case neg=>
  obtain⟨k3,⟨p0,q0⟩,t0,u0⟩:=HN.o 3 g3
  have G3:Hid (¬ aB T 3=0):=g3
  clear g3
  go_wp2
  refine bI 5 ?_
  refine aM ?_
  go_wp2
  refine aM ?_
  go_wp2
  refine aM ?_
  go_wp2
  refine aM ?_
  go_wp2_with (go_at_call 124;refine(fC _ _ k3 p0 q0 H1.o).mono ?_;rintro e w' ⟨rfl,rfl⟩)
  go_ret2
  have hh:=dY s f 3 (by decide) (fun j hj=>by
   rw [HE.o]
   match j,hj with
   | 0,_=>exact G0.o
   | 1,_=>exact G1.o
   | 2,_=>exact G2.o) (by rw [HE.o];exact G3.o)
  rw [HE.o] at hh
  rw [hh.1,hh.2]
  exact⟨by simp,HB.o⟩
 have k3:=HZ.o 3 g3
 have G3:Hid (aB T 3=0):=g3
 clear g3
 go_wp2
 refine bI 5 ?_
 refine aM ?_
 go_wp2
 refine aM ?_
 go_wp2
 refine aM ?_
 go_wp2
 refine aM ?_
 go_wp2
 refine aM ?_
 go_wp2
 go_ret2
 have hh:=kE s f (fun j hj=>by
  rw [HE.o]
  match j,hj with
  | 0,_=>exact G0.o
  | 1,_=>exact G1.o
  | 2,_=>exact G2.o
  | 3,_=>exact G3.o)
 exact⟨by simp [cO,cP,hh],HB.o⟩
end
abbrev cH:={ x:Int // 0<=x/\x<=255 }
theorem eX{n:Nat}(h:n<256):0<=(n:Int)/\(n:Int)<=255:=by omega
def aP(s:aQ):List cH:=(List.range 256).filterMap fun n=>if h:n<256/\s.getLsbD n=true then some ⟨(n:Int),eX h.1⟩ else none
def eL(pre:List cH):Int:=match pre.getLast? with | none=>0 | some b=>b.1+1
theorem eN(s:aQ)(x:cH):x∈aP s↔s.getLsbD x.1.toNat=true:=by
 unfold aP
 rw [List.mem_filterMap]
 constructor
 ·rintro ⟨n,hn,h⟩
  split at h
  ·rename_i g
   cases h
   simpa using g.2
  ·cases h
 ·intro h
  obtain⟨v,h0,h1⟩:=x
  refine⟨v.toNat,by simp;omega,?_⟩
  rw [dif_pos ⟨by omega,h⟩]
  simp only [Option.some.injEq,Subtype.mk.injEq]
  omega
theorem eU(s:aQ):(aP s).Pairwise (fun a b=>a.1<b.1):=by
 unfold aP
 refine List.Pairwise.filterMap _ ?_ List.pairwise_lt_range
 intro a a' hlt b hb b' hb'
 split at hb
 ·cases hb
  split at hb'
  ·cases hb';show (a:Int)<(a':Int);omega
  ·cases hb'
 ·cases hb
theorem qY:eL []=0:=rfl
theorem eO(pre:List cH)(x:cH):eL (pre++[x])=x.1+1:=by simp [eL]
theorem lG{pre:List cH}(hs:pre.Pairwise (fun a b=>a.1<b.1)){y:cH}(hy:y∈pre):y.1<eL pre:=by
 rcases n8 pre with rfl | ⟨l,b,rfl⟩
 ·cases hy
 ·rw [n9] at *
  rw [eO]
  rw [List.pairwise_append] at hs
  rcases o4.1 hy with h | h
  ·have:=hs.2.2 y h b (by simp);omega
  ·have:y=b:=by simpa using h
   subst this;omega
theorem iZ(s:aQ)(pre:List cH)(x:cH)(rest:List cH)(h:aP s=pre++x :: rest):dA s (eL pre)=some x.1.toNat:=by
 have hso:=eU s
 rw [h,List.pairwise_append,List.pairwise_cons] at hso
 obtain⟨h1,⟨h2,_⟩,h3⟩:=hso
 have hx:=x.2
 refine fK (by omega) ?_ ?_
 ·have hm:s.getLsbD x.1.toNat=true:=(eN s x).1 (by rw [h];simp)
  rw [hm,Bool.and_true,r4]
  rcases n8 pre with rfl | ⟨l,b,rfl⟩
  ·rw [qY];omega
  ·rw [n9,eO]
   have:=h3 b (by simp) x (by simp)
   omega
 ·intro j hj
  rw [Bool.and_eq_false_iff]
  by_cases hf:eL pre<=(j:Int)
  ·right
   rw [Bool.eq_false_iff]
   intro hb
   have hm:(⟨(j:Int),eX (by omega)⟩:cH)∈aP s:=(eN s _).2 (by simpa using hb)
   rw [h] at hm
   rcases o4.1 hm with hm | hm
   ·have:=lG h1 hm;simp at this;omega
   ·rcases k9.1 hm with hm | hm
    ·have:=congrArg Subtype.val hm;simp at this;omega
    ·have:=h2 _ hm;simp at this;omega
  ·left;simpa using hf
theorem jA(s:aQ):dA s (eL (aP s))=none:=by
 unfold dA
 rw [List.find?_eq_none]
 intro n hn hb
 have hn':n<256:=by simpa using hn
 simp at hb
 have hm:(⟨(n:Int),eX hn'⟩:cH)∈aP s:=(eN s _).2 (by simpa using hb.2)
 have:=lG (eU s) hm
 simp at this
 omega
theorem kC(s:aQ)(pre:List cH)(x:cH)(rest:List cH)(h:aP s=pre++x :: rest):cO s (eL pre)=x.1/\cP s (eL pre)=true:=by
 have hx:=x.2
 unfold cO cP
 rw [iZ s pre x rest h]
 refine⟨?_,rfl⟩
 show ((x.1.toNat:Nat):Int)=x.1
 omega
theorem kD(s:aQ):cO s (eL (aP s))=0/\cP s (eL (aP s))=false:=by
 unfold cO cP
 rw [jA s]
 exact⟨rfl,rfl⟩
theorem dV(s:aQ):(aP s).length<=256:=by
 unfold aP
 refine j4 (List.length_filterMap_le _ _) ?_
 simp
section
open Go Go.RowKit Go.Shelf
attribute [local go_sem] Oper.semAt_some
theorem iC{W W':World}(hb:Below W.heap.size W W'):W.grownBy W' none:=⟨hb.os,hb.tape,hb.output,hb.size,fun k hk _=>hb.block k hk⟩
def z1_SetAt(W:World)(B:Nat)(s:aQ):Prop:=W.heap[B]?=some (.cells #[.int .u64 (aB (s) 0),.int .u64 (aB (s) 1),.int .u64 (aB (s) 2),.int .u64 (aB (s) 3)] 52 (0,0))
theorem z1_SetAt.lt{W:World}{B:Nat}{s:aQ}(h:z1_SetAt W B s):B<W.heap.size:=(n3.1 h).1
theorem z1_SetAt.cell0{W:World}{B:Nat}{s:aQ}(h:z1_SetAt W B s):W.cell? ⟨B,0,none⟩=some (.int .u64 (aB s 0)):=by simp [World.cell?,show W.heap[B]?=_ from h]
theorem z1_SetAt.cell1{W:World}{B:Nat}{s:aQ}(h:z1_SetAt W B s):W.cell? ⟨B,1,none⟩=some (.int .u64 (aB s 1)):=by simp [World.cell?,show W.heap[B]?=_ from h]
theorem z1_SetAt.cell2{W:World}{B:Nat}{s:aQ}(h:z1_SetAt W B s):W.cell? ⟨B,2,none⟩=some (.int .u64 (aB s 2)):=by simp [World.cell?,show W.heap[B]?=_ from h]
theorem z1_SetAt.cell3{W:World}{B:Nat}{s:aQ}(h:z1_SetAt W B s):W.cell? ⟨B,3,none⟩=some (.int .u64 (aB s 3)):=by simp [World.cell?,show W.heap[B]?=_ from h]
theorem z1_SetAt.below{W W':World}{B n₀:Nat}{s:aQ}(h:z1_SetAt W B s)(hb:Below n₀ W W')(hB:B<n₀):z1_SetAt W' B s:=(hb.block B hB).trans h
theorem z1_SetAt.new(W:World)(s:aQ):z1_SetAt (W.alloc (.cells #[.int .u64 (aB (s) 0),.int .u64 (aB (s) 1),.int .u64 (aB (s) 2),.int .u64 (aB (s) 3)] 52)) W.heap.size s:=World.alloc_heap_new W _
theorem z1_SetAt.alloc{W:World}{B:Nat}{s:aQ}(h:z1_SetAt W B s)(o:Obj):z1_SetAt (W.alloc o) B s:=(Below.heap_alloc W o B h.lt).trans h
theorem z1_SetAt.grown{W W':World}{B:Nat}{s:aQ}{row:Option Nat}(h:z1_SetAt W B s)(hg:W.grownBy W' row)(hne:some B≠row):z1_SetAt W' B s:=(hg.block B h.lt hne).trans h
theorem z1_SetAt.setCell{W:World}{B:Nat}{s:aQ}(h:z1_SetAt W B s){a:Addr}(hne:B≠a.block)(v:Value):z1_SetAt (W.setCell a v) B s:=(Below.heap_setCell W a v B hne).trans h
theorem z1_Tab.low{n₀:Nat}{w w':World}(h:z1_Tab w)(hb:Below n₀ w w')(h0:2<n₀):z1_Tab w':=
 ⟨j5 h.1 hb.size,fun j hj=>(hb.cell (p:=⟨2,j,none⟩) h0).trans (h.2 j hj)⟩
def gD(n₀ Bs:Nat)(s:aQ)(A B:World):Prop:=Below n₀ A B/\(z1_SetAt A Bs s->z1_SetAt B Bs s)
theorem vV{n₀ Bs:Nat}{s:aQ}{A B C:World}(h:gD n₀ Bs s A B)(k:gD n₀ Bs s B C):gD n₀ Bs s A C:=⟨h.1.trans k.1,fun x=>k.2 (h.2 x)⟩
theorem vW{n₀ Bs:Nat}{s:aQ}{w:World}(hn:n₀<=w.heap.size)(W:World)(l:Nat)(o o':Obj)(hl:w.heap.size<=l)(h:W.heap[l]?=some o)(hc:o.isCells=false)(hw:o.isWalk=false):gD n₀ Bs s W (W.putObj l o'):=
 ⟨belowK_b hn W l o o' hl h hc hw,fun x=>by
  have hne:Bs≠l:=fun e=>by subst e;rw [show W.heap[Bs]?=_ from x] at h;cases h;cases hc
  exact(World.putObj_heap_other hne).trans x⟩
def gC:Value->Value->Nat
 | .int _ b,.bool true=>256-b.toNat
 | _,_=>0
theorem iW{s:aQ}{f:Int}{n:Nat}(h:dA s f=some n):f<=(n:Int)/\n<256/\s.getLsbD n=true:=by
 have h1:=List.find?_some h
 have h2:=List.mem_of_find?_eq_some h
 simp at h1 h2
 exact⟨h1.1,h2,h1.2⟩
theorem mW(s:aQ)(x:Int)(h0:0<=x)(h1:x<=255):gC (.int .i64 (cO s (x+1))) (.bool (cP s (x+1)))<gC (.int .i64 x) (.bool true):=by
 unfold cO cP
 cases h:dA s (x+1) with
 | none=>show 0<256-x.toNat;omega
 | some n=>
  obtain⟨g1,g2,_⟩:=iW h
  show 256-((n:Int)).toNat<256-x.toNat
  omega
theorem nB(n:Nat)(hn:1<=n)(l Bs n₀:Nat)(s:aQ)(hn₀:2<n₀)(J Jx:List cH->World->Prop)
  (hJ:∀ pre A B,J pre A->Below A.heap.size A B->J pre B)
  (hY:∀ pre x W,J pre W->pre.length<(aP s).length->YieldAt Fence.wide (n-1) Tryz.prog l #[.int .i64 x.1] W fun e W'=>
   (e=.returned (.bool true)/\J (pre++[x]) W'/\gD n₀ Bs s W W')\/(e=.returned (.bool false)/\Jx (pre++[x]) W'))
  (W:World) (hS:z1_SetAt W Bs s) (hT:z1_Tab W) (hle:n₀<=W.heap.size) (h0:J [] W) :
  CallsIn Fence.wide n Tryz.prog 106 #[.func (.yield l) #[] #[],.pointer (some ⟨Bs,0,none⟩)] W fun e W'=>(∃ v,e=.returned v) /\
   ((∃ ys,ys=aP s/\J ys W')\/(∃ pre,pre <+: aP s/\Jx pre W')):=by
 have hfn:∀ f,Fence.wide.fn f:=fun _=>trivial
 have hc0:=hS.cell0
 have hc1:=hS.cell1
 have hc2:=hS.cell2
 have hc3:=hS.cell3
 have HS:Hid (z1_SetAt W Bs s):=hS
 have HT:Hid (z1_Tab W):=hT
 clear hS hT
 refine callsIn_of_wp Tryz.func106 rfl trivial ?_ rfl
 simp only [Tryz.ntmps106,List.size_toArray,p8,List.length_nil,Nat.reduceAdd,Nat.reduceSub,Array.replicate_succ,Array.replicate_zero,List.push_toArray,List.append_toArray,l9,n4]
 gi_wp2_with (gi_at_call 107;refine(callsIn_wide.2 (gJ s 0 _ HT.o)).mono ?_;rintro e w1 ⟨rfl,hb1⟩)
 have HS1:Hid (z1_SetAt w1 Bs s):=HS.o.below hb1 HS.o.lt
 have HT1:Hid (z1_Tab w1):=HT.o.below hb1
 have HL1:Hid (n₀<=w1.heap.size):=j4 hle hb1.size
 have HJ1:Hid (J [] w1):=hJ _ _ _ h0 hb1
 clear hc0 hc1 hc2 hc3 HS HT h0 hb1
 gi_loopw [3,4] (fun b ok wr=>∃ (pre rest:List cH),aP s=pre++rest/\b=.int .i64 (cO s (eL pre))/\ok=.bool (cP s (eL pre))/\z1_SetAt wr Bs s/\z1_Tab wr/\n₀<=wr.heap.size/\J pre wr)
  (fun b ok _=>gC b ok)
 case atStart=>exact⟨[],aP s,rfl,rfl,rfl,HS1.o,HT1.o,HL1.o,HJ1.o⟩
 case round=>
  obtain⟨pre,rest,hx,rfl,rfl,hs,ht,hl,hj⟩:=hrel
  clear HS1 HT1 HL1 HJ1
  have HS:Hid (z1_SetAt wr Bs s):=hs
  have HT:Hid (z1_Tab wr):=ht
  clear hs ht
  cases rest with
  | nil=>
   have hx':aP s=pre:=by simpa using hx
   have hne:=kD s
   rw [hx'] at hne
   rw [hne.1,hne.2]
   have HX:Hid (aP s=pre):=hx'
   clear hx hx' hne
   gi_wp2
   go_end0
   exact⟨⟨_,rfl⟩,.inl ⟨pre,HX.o.symm,hj⟩⟩
  | cons x rest=>
   have hne:=kC s pre x rest hx
   rw [hne.1,hne.2]
   clear hne
   have hxb:=x.2
   obtain⟨fn,tmps,assign,body,hy,hR⟩:=hY pre x wr hj (by rw [hx];simp)
   have HX:Hid (aP s=pre++x :: rest):=hx
   clear hx
   gi_wp2
   refine hR.mono ?_
   rintro e W3 (⟨rfl,hJ3,hk3⟩ | ⟨rfl,hJx3⟩)
   ·have HS3:Hid (z1_SetAt W3 Bs s):=hk3.2 HS.o
    have HT3:Hid (z1_Tab W3):=HT.o.low hk3.1 hn₀
    have hd0:=HS3.o.cell0
    have hd1:=HS3.o.cell1
    have hd2:=HS3.o.cell2
    have hd3:=HS3.o.cell3
    have HL3:Hid (n₀<=W3.heap.size):=j4 hl hk3.1.size
    have HJ3:Hid (J (pre++[x]) W3):=hJ3
    clear hJ3 hk3 hj hY hy hR HT HS
    gi_wp2_with (gi_at_call 107;refine(callsIn_wide.2 (gJ s _ _ HT3.o)).mono ?_;rintro e w4 ⟨rfl,hb4⟩)
    go_roundw
    case rel=>exact⟨pre++[x],rest,by rw [HX.o];simp,by rw [eO],by rw [eO],HS3.o.below hb4 HS3.o.lt,HT3.o.below hb4,j4 HL3.o hb4.size,hJ _ _ _ HJ3.o hb4⟩
    case measure=>exact mW s x.1 hxb.1 hxb.2
   ·gi_wp2
    refine bodyPost_ret (results_none rfl _ _ _) rfl ?_
    exact⟨⟨_,rfl⟩,.inr ⟨pre++[x],⟨rest,by rw [HX.o];simp⟩,hJx3⟩⟩
theorem nA(s:aQ)(w:World) :
  Calls Tryz.prog 84 #[.agg #[.int .u64 (aB (s) 0),.int .u64 (aB (s) 1),.int .u64 (aB (s) 2),.int .u64 (aB (s) 3)]] w fun e w'=>e=.returned (.func (.func 106) #[] #[.pointer (some ⟨w.heap.size,0,none⟩)])/\w'=w.alloc (.cells #[.int .u64 (aB (s) 0),.int .u64 (aB (s) 1),.int .u64 (aB (s) 2),.int .u64 (aB (s) 3)] 52):=by
 go_enter Tryz.func84,Tryz.ntmps84
 go_wp2
 go_ret
 exact⟨rfl,rfl⟩
theorem kJ(n:Nat)(hn:1<=n)(Bs n₀:Nat)(s:aQ)(w:World)(hS:z1_SetAt w Bs s)(hT:z1_Tab w)(hn₀:2<n₀)(hle:n₀<=w.heap.size) :
  SeqStopsK Fence.wide n Tryz.prog 106 #[.pointer (some ⟨Bs,0,none⟩)] (fun x:cH=>#[Value.int .i64 x.1]) (gD n₀ Bs s) (fun ys=>ys=aP s) (fun pre=>pre <+: aP s) (aP s).length w:=fun l J Jx W hW hJ _ hY h0=>
 nB n hn l Bs n₀ s hn₀ J Jx (fun pre A B h hb=>hJ pre A B none h (iC hb) (fun r e=>by cases e)) hY W (hS.below hW hS.lt) (hT.below hW) (j4 hle hW.size) h0
end
section
open Go Go.RowKit Go.Shelf
attribute [local go_sem] Oper.semAt_some
def dO(acc:List (Int×Int))(b:Int):List (Int×Int):=
 match acc.getLast? with
 | some p=>if p.2=b-1 then acc.dropLast++[(p.1,b)] else acc++[(b,b)]
 | none=>[(b,b)]
def aT(l:List cH):List (Int×Int):=l.foldl (fun acc x=>dO acc x.1) []
def cG(rs:List (Int×Int)):List Value:=rs.flatMap fun r=>[.int .i64 r.1,.int .i64 r.2]
theorem bQ(l:List cH)(x:cH):aT (l++[x])=dO (aT l) x.1:=by simp [aT]
theorem eY(b:Int):dO [] b=[(b,b)]:=rfl
theorem dP(acc:List (Int×Int))(lo hi b:Int)(h:hi=b-1):dO (acc++[(lo,hi)]) b=acc++[(lo,b)]:=by simp [dO,h]
theorem dF(acc:List (Int×Int))(lo hi b:Int)(h:¬ hi=b-1):dO (acc++[(lo,hi)]) b=acc++[(lo,hi)]++[(b,b)]:=by simp [dO,h]
theorem cB(a b:List (Int×Int)):cG (a++b)=cG a++cG b:=by simp [cG]
theorem dC(a b:Int):cG [(a,b)]=[.int .i64 a,.int .i64 b]:=rfl
theorem cQ(a:List (Int×Int)):(cG a).length=a.length*2:=by
 induction a with
 | nil=>rfl
 | cons x a ih=>rw [show x :: a=[x]++a from rfl,cB,j2,ih];simp only [cG,List.flatMap_cons,List.flatMap_nil,o5,p8,List.length_nil,j2];omega
theorem iD(acc:List (Int×Int))(b:Int):(dO acc b).length<=acc.length+1:=by
 rcases n8 acc with rfl | ⟨l,p,rfl⟩
 ·simp [dO]
 ·rw [n9]
  by_cases h:p.2=b-1
  ·rw [show p=(p.1,p.2) from rfl,dP _ _ _ _ h];simp
  ·rw [show p=(p.1,p.2) from rfl,dF _ _ _ _ h];simp
theorem eA:∀ (n:Nat) (l:List cH),l.length=n->(aT l).length<=l.length
 | 0,l,h=>by
  obtain rfl:=r6 h
  simp [aT]
 | n+1,l,h=>by
  rcases n8 l with rfl | ⟨m,b,rfl⟩
  ·simp [aT]
  ·rw [n9] at h ⊢
   rw [bQ]
   have h1:=iD (aT m) b.1
   have h2:=eA n m (by simpa using h)
   simp;omega
theorem eB(l:List cH):(aT l).length<=l.length:=eA _ l rfl
theorem fM{W:World}{g:Nat}{cur:Array Value}{t:TypeId}(hg:W.heap[g]?=some (.cells cur t (0,0)))(o:Nat)(v:Value):(W.setCell ⟨g,o,none⟩ v).heap[g]?=some (.cells (cur.setIfInBounds o v) t (0,0)):=by
 unfold World.setCell
 dsimp only
 rw [Array.getElem?_modify,if_pos rfl,hg]
 rfl
theorem lF(W:World)(a b:Value)(t:TypeId):∀ (j:Nat) (u:Value),[a,b][j]?=some u->(W.alloc (.cells #[a,b] t)).cell? ((⟨W.heap.size,0,none⟩:Addr).add j)=some u:=by
 intro j u h
 match j,h with
 | 0,h=>simp at h;subst h;simp [go_sem,Addr.add]
 | 1,h=>simp at h;subst h;simp [go_sem,Addr.add]
 | j+2,h=>simp at h
theorem z1_SetAt.not_row{W:World}{B base n:Nat}{s:aQ}{v:Value}{xs:List Value}(h:z1_SetAt W B s)(hr:W.ownsRow base 120 2 v n xs):some B≠v.ownBlock:=by
 rcases hr.2 with⟨rfl,_⟩ | ⟨g,cap,cur,rfl,_,hg,_⟩
 ·simp [Value.ownBlock]
 ·intro e
  simp [Value.ownBlock] at e
  subst e
  rw [show W.heap[B]?=_ from h] at hg
  cases hg
theorem lD{W:World}{base:Nat}{v:Value}{acc:List (Int×Int)}{lo hi:Int}(h:W.ownsRow base 120 2 v (acc.length+1) (cG (acc++[(lo,hi)]))) :
  ∃ g cap,v=.slice (some ⟨g,0,none⟩) (acc.length+1) cap/\base<=g/\g<W.heap.size/\acc.length+1<=cap/\cap<=maxLen/\W.cell? ⟨g,acc.length*2+1,none⟩=some (.int .i64 hi)/\W.frozen? ⟨g,acc.length*2+1,none⟩=false /\
   (∃ cur,W.heap[g]?=some (.cells cur 120 (0,0))) /\
   ∀ b:Int,(W.setCell ⟨g,acc.length*2+1,none⟩ (.int .i64 b)).ownsRow base 120 2 v (acc.length+1) (cG (acc++[(lo,b)])):=by
 obtain⟨hl,h2⟩:=h
 rcases h2 with⟨_,h0⟩ | ⟨g,cap,cur,rfl,hb,hg,hc1,hc2,hsz,ht⟩
 ·omega
 ·have hlt:acc.length*2+1<cur.size:=by omega
  have hcur:cur[acc.length*2+1]?=some (.int .i64 hi):=by
   have:(cur.toList.take ((acc.length+1)*2))[acc.length*2+1]?=some (.int .i64 hi):=by
    rw [ht,cB,dC,o3 (by rw [cQ];omega),cQ];simp
   rw [s5 (by omega)] at this
   simpa using this
  refine⟨g,cap,rfl,hb,(n3.1 hg).1,hc1,hc2,by simp [World.cell?,hg,hcur],by simp [World.frozen?,hg],⟨cur,hg⟩,fun b=>⟨by simp [cB,dC,cQ];omega,.inr ⟨g,cap,cur.setIfInBounds (acc.length*2+1) (.int .i64 b),rfl,hb,?_,hc1,hc2,by simpa using hsz,?_⟩⟩⟩
  ·exact fM hg _ _
  ·rw [Array.toList_setIfInBounds,List.take_set,ht,cB,cB,dC,dC,List.set_append_right _ _ (by rw [cQ];omega),cQ];simp
theorem iX:(Tryz.prog.info? 120).map (fun i=>(i.zero,i.size,i.bytes))=some (some (.agg #[.int .i64 0,.int .i64 0]),2,16):=by kernel_rfl
theorem kB(n:Nat)(hn:3<=n)(s:aQ)(w:World)(hT:z1_Tab w) :
  CallsIn Fence.wide n Tryz.prog 67 #[.agg #[.int .u64 (aB (s) 0),.int .u64 (aB (s) 1),.int .u64 (aB (s) 2),.int .u64 (aB (s) 3)]] w fun e W'=>∃ v,e=.returned v/\W'.ownsRow w.heap.size 120 2 v (aT (aP s)).length (cG (aT (aP s)))/\(v=.slice none 0 0↔aT (aP s)=[])/\Below w.heap.size w W':=by
 have h1:1<=n:=by omega
 have h2:1<=n-1-1:=by omega
 have hfn:∀ f,Fence.wide.fn f:=fun _=>trivial
 have HT:Hid (z1_Tab w):=hT
 clear hT
 obtain⟨i0,hi,hz0,hz1,hz2⟩:=info_parts iX
 refine callsIn_of_wp_marks Tryz.func67 rfl trivial ?_ rfl
 simp only [Tryz.ntmps67,List.size_toArray,p8,List.length_nil,Nat.reduceAdd,Nat.reduceSub,Array.replicate_succ,Array.replicate_zero,List.push_toArray,List.append_toArray,l9,n4]
 gi_wp2_with (gi_at_call 84;refine(callsIn_wide.2 (nA s _)).mono ?_;rintro e w' ⟨rfl,rfl⟩)
 have bS:=z1_SetAt.new ((w.alloc (.cells #[.int .u64 (aB (s) 0),.int .u64 (aB (s) 1),.int .u64 (aB (s) 2),.int .u64 (aB (s) 3)] 52)).alloc (.cells #[.slice none 0 0] 117)) s
 have bL:=Boxed.new (w.alloc (.cells #[.int .u64 (aB (s) 0),.int .u64 (aB (s) 1),.int .u64 (aB (s) 2),.int .u64 (aB (s) 3)] 52)) 117 (.slice none 0 0)
 simp only [r7] at bS bL
 have hB0:Below w.heap.size w (((w.alloc (.cells #[.int .u64 (aB (s) 0),.int .u64 (aB (s) 1),.int .u64 (aB (s) 2),.int .u64 (aB (s) 3)] 52)).alloc (.cells #[.slice none 0 0] 117)).alloc (.cells #[.int .u64 (aB (s) 0),.int .u64 (aB (s) 1),.int .u64 (aB (s) 2),.int .u64 (aB (s) 3)] 52)):=(((Below.refl _ w).alloc (j9 _) _).alloc (by simp) _).alloc (by simp;omega) _
 have hpos:=HT.o.1
 refine wpIn_rangeFunc_ownG rfl h1 (gf:=106) (lb:=#[.pointer (some ⟨w.heap.size+1+1,0,none⟩)]) rfl trivial (enters_of Tryz.func106 (by kernel_rfl) rfl)
  (kJ (n-1) (by omega) (w.heap.size+1+1) w.heap.size s _ bS (HT.o.below hB0) hpos (by simp;omega)) vV (vW (by simp;omega)) (Below.refl _ _) (fun _=>rfl)
  (fun pre W=>(∃ v,Boxed W (w.heap.size+1) 117 v/\W.ownsRow w.heap.size 120 2 v (aT pre).length (cG (aT pre))/\(v=.slice none 0 0↔aT pre=[]))/\Below w.heap.size w W)
  (fun _ _ _=>False)
  (OwnFrom.and (Own.from (holdsRow_own w.heap.size (w.heap.size+1) 117 120 2 (fun pre=>(aT pre).length) (fun pre=>cG (aT pre)) (fun pre v=>v=.slice none 0 0↔aT pre=[])) _) (ownFrom_below (j9 _) (by simp;omega)))
  (fun _ _ _ _ _ hs _ _=>hs)
  ⟨⟨_,bL.alloc _,j8 _ _ _ _,by simp [aT]⟩,hB0⟩
  (fun x=>{ tmps:=#[.agg #[.int .u64 (aB (s) 0),.int .u64 (aB (s) 1),.int .u64 (aB (s) 2),.int .u64 (aB (s) 3)],.pointer (some ⟨w.heap.size,0,none⟩),.slice none 0 0,.pointer (some ⟨w.heap.size+1,0,none⟩),.int .i64 x.1,undef,.agg #[.int .u64 (aB (s) 0),.int .u64 (aB (s) 1),.int .u64 (aB (s) 2),.int .u64 (aB (s) 3)],.func (.func 106) #[] #[.pointer (some ⟨w.heap.size+1+1,0,none⟩)],.int .i64 x.1,undef,undef,undef,undef,undef,undef,undef,undef,undef,undef,undef,undef,undef,undef,undef,undef,undef,undef,undef,undef,undef,undef,undef,undef,undef,undef,undef],defers:=[] }) ?assign ?body ?done ?stop
 case assign=>
  intro l x W K hK
  gi_wp2
  exact hK
 case body=>
  rintro l pre x W ⟨⟨v,hv,hrow,hnil⟩,hB⟩ hlt
  have hc:=hv.cell
  have hxb:=x.2
  have hel:=dV s
  have hrl:=eB pre
  rcases n8 (aT pre) with hr0 | ⟨acc,p,hr0⟩
  ·have hrow0:W.ownsRow w.heap.size 120 2 (.slice none 0 0) 0 []:=j8 _ _ _ _
   obtain rfl:=hnil.2 hr0
   clear hnil hrow
   gi_wp2_with (gi_at_builtin;refine wpListIn_append_own _ rfl _ _ 117 rfl w.heap.size 120 i0 (.agg #[.int .i64 0,.int .i64 0]) 2 16 Tryz.underlying117 hi hz0 hz1 hz2 rfl (by decide) _ _ _ rfl (hrow0.alloc _) ⟨W.heap.size,0,none⟩ 1 1 [.int .i64 x.1,.int .i64 x.1] rfl rfl (lF _ _ _ _) (by simp [Value.oneCell']) (by decide) (by decide) (by have:=hB.size;simp;omega) ?_;intro v' w1 hown' hgrow _;obtain⟨g',cap',rfl⟩:=ownsRow_succ hown';obtain⟨hv1,hv2,hr2,hk2,hb2⟩:=hv.appended (by decide) hrow0 hB.size (by omega) hown' hgrow;have hc1:=hv1.cell;have hf1:=hv1.frozen)
   exact⟨hk2.from _,⟨hb2,fun hs=>((hs.alloc _).grown hgrow (hs.not_row hrow0)).setCell (by simp) _⟩,⟨_,hv2,by rw [bQ,hr0,eY];simpa [dC] using hr2,by rw [bQ,hr0,eY];simp⟩,hB.trans hb2⟩
  ·rw [n9] at hr0
   obtain⟨lo,hh⟩:=p
   rw [hr0] at hrow hrl
   have hlen:(acc++[(lo,hh)]).length=acc.length+1:=by simp
   rw [hlen] at hrow hrl
   have hrow':=hrow
   obtain⟨g,cap,rfl,hg0,hg1,hcap1,hcap2,hcl,hfz,⟨cur,hcur⟩,hset⟩:=lD hrow
   have hgs:some (w.heap.size+1)≠(Value.slice (some ⟨g,0,none⟩) (acc.length+1) cap).ownBlock:=hv.not_row (by decide) hrow'
   unfold maxLen at hcap2
   clear hnil hlen
   by_cases hp:hh=x.1-1
   ·have hq:(hh==x.1-1)=true:=by simp [hp]
    have HP:Hid (hh=x.1-1):=hp
    clear hp
    have hne:w.heap.size+1≠g:=fun e=>hgs (by simp [Value.ownBlock,e])
    gi_wp2
    exact⟨(KeepsOthers.setCell _ _ _).from _,⟨(Below.refl _ _).setCell (p:=⟨g,acc.length*2+1,none⟩) hg0 _,fun hs=>hs.setCell (fun e=>hs.not_row hrow' (by simp [Value.ownBlock];exact e)) _⟩,
     ⟨_,(Below.heap_setCell W _ _ _ hne).trans hv,by rw [bQ,hr0,dP _ _ _ _ HP.o];simpa using hset x.1,by rw [bQ,hr0,dP _ _ _ _ HP.o];simp⟩,hB.setCell (p:=⟨g,acc.length*2+1,none⟩) hg0 _⟩
   ·have hq:(hh==x.1-1)=false:=by simp [hp]
    have HP:Hid (¬ hh=x.1-1):=hp
    clear hp
    gi_wp2_with (gi_at_builtin;refine wpListIn_append_own _ rfl _ _ 117 rfl w.heap.size 120 i0 (.agg #[.int .i64 0,.int .i64 0]) 2 16 Tryz.underlying117 hi hz0 hz1 hz2 rfl (by decide) _ _ _ rfl (hrow'.alloc _) ⟨W.heap.size,0,none⟩ 1 1 [.int .i64 x.1,.int .i64 x.1] rfl rfl (lF _ _ _ _) (by simp [Value.oneCell']) (by unfold maxLen;omega) (by omega) (by have:=hB.size;simp;omega) ?_;intro v' w1 hown' hgrow _;obtain⟨g',cap',rfl⟩:=ownsRow_succ hown';obtain⟨hv1,hv2,hr2,hk2,hb2⟩:=hv.appended (by decide) hrow' hB.size (by omega) hown' hgrow;have hc1:=hv1.cell;have hf1:=hv1.frozen)
    exact⟨hk2.from _,⟨hb2,fun hs=>((hs.alloc _).grown hgrow (hs.not_row hrow')).setCell (by simp) _⟩,⟨_,hv2,by rw [bQ,hr0,dF _ _ _ _ HP.o,cB (acc++[(lo,hh)])];simpa [dC] using hr2,by rw [bQ,hr0,dF _ _ _ _ HP.o];simp⟩,hB.trans hb2⟩
 case done=>
  rintro D ys W hD rfl ⟨⟨v,hv,hrow,hnil⟩,hB⟩ hK
  have hc:=hv.cell
  gi_wp2
  refine⟨by simp,.inl ⟨_,_,rfl,run_takeDeferred hK,?_⟩⟩
  exact⟨_,results_tmp rfl _ _ _,v,rfl,ownsRow_putObj hrow _ hK rfl,hnil,hB.trans (belowK_b (w:=w) (j9 _) W D _ _ (by simp at hD;omega) hK rfl rfl)⟩
 case stop=>
  rintro D c pre W _ _ h _
  exact h.elim
theorem fJ(s:aQ)(w:World)(hT:z1_Tab w) :
  Calls Tryz.prog 67 #[.agg #[.int .u64 (aB (s) 0),.int .u64 (aB (s) 1),.int .u64 (aB (s) 2),.int .u64 (aB (s) 3)]] w fun e W'=>∃ v,e=.returned v/\W'.ownsRow w.heap.size 120 2 v (aT (aP s)).length (cG (aT (aP s)))/\(v=.slice none 0 0↔aT (aP s)=[])/\Below w.heap.size w W':=
 callsIn_wide.1 (kB 3 (j9 _) s w hT)
end
section
attribute [local go_sem] hQ hH gZ gY dM
def cK(lo hi:Int):aQ:=aW (aV (hi+1)) (aV lo)
def mV(lo hi:Int):Prop:=0<=lo/\lo<=hi/\hi<=255
theorem lM{w W W':World}(h:Below w.heap.size w W)(hb:Below W.heap.size W W'):Below w.heap.size w W':=h.trans (hb.mono h.size)
theorem jZ{w W:World}{x0 z1_x1 z1_x2 z1_x3:Value}{t:TypeId}(h:Below (w.alloc (.cells #[x0,z1_x1,z1_x2,z1_x3] t)).heap.size (w.alloc (.cells #[x0,z1_x1,z1_x2,z1_x3] t)) W) :
  W.cell? ⟨w.heap.size,0,none⟩=some x0/\W.cell? ⟨w.heap.size,1,none⟩=some z1_x1/\W.cell? ⟨w.heap.size,2,none⟩=some z1_x2/\W.cell? ⟨w.heap.size,3,none⟩=some z1_x3/\∀ o,W.frozen? ⟨w.heap.size,o,none⟩=false:=by
 refine⟨?_,?_,?_,?_,fun o=>?_⟩
 ·rw [h.cell (by simp)];simp [go_sem]
 ·rw [h.cell (by simp)];simp [go_sem]
 ·rw [h.cell (by simp)];simp [go_sem]
 ·rw [h.cell (by simp)];simp [go_sem]
 ·rw [h.frozen (by simp)];simp [go_sem]
theorem lC(lo hi:Int)(w:World)(h:mV lo hi) :
  Calls Tryz.prog 116 #[.int .i64 lo,.int .i64 hi] w fun e w'=>e=.returned (.tuple #[.agg #[.int .u64 (aB (cK lo hi) 0),.int .u64 (aB (cK lo hi) 1),.int .u64 (aB (cK lo hi) 2),.int .u64 (aB (cK lo hi) 3)],.int .i64 0])/\Below w.heap.size w w':=by
 obtain⟨h0,h1,h2⟩:=h
 go_enter Tryz.func116,Tryz.ntmps116
 go_wp2_with (first
  |(go_at_call 123;refine(eP _ _).mono ?_;rintro e w2 ⟨rfl,hb2⟩;have HB:=lM HA hb2)
  |(go_at_call 123;refine(eP _ _).mono ?_;rintro e w1 ⟨rfl,HA⟩)
  |(go_at_call 122;refine(gK _ _ _).mono ?_;rintro e w3 ⟨rfl,hb3⟩;have HC:=lM HB hb3;obtain⟨c0,c1,c2,c3,f0⟩:=jZ HC))
 exact bodyPost_ret (v:=.tuple #[.agg #[.int .u64 (aB (cK lo hi) 0),.int .u64 (aB (cK lo hi) 1),.int .u64 (aB (cK lo hi) 2),.int .u64 (aB (cK lo hi) 3)],.int .i64 0]) (by simp [results,Tryz.results116,go_sem,cK,c0,c1,c2,c3]) rfl ⟨rfl,((((((Below.refl _ _).alloc (j9 _) _).trans (HC.mono (by simp))).setCell (by simp) _).setCell (by simp) _).setCell (by simp) _).setCell (by simp) _⟩
end
theorem lz9{n:Nat}:n<=n:=j9 n
theorem bz9{w:World}{o:Obj}:Below w.heap.size w (w.alloc o):=(Below.refl w.heap.size w).alloc (j9 w.heap.size) o
def cJ(l:List Int):List Value:=l.map (Value.int .i64)
theorem cF(l:List Int):(cJ l).length=l.length:=by simp [cJ]
theorem dS{l:List Int}{i:Nat}{x:Int}(h:l[i]?=some x):(cJ l)[i]?=some (.int .i64 x):=by simp [cJ,h]
theorem dT(a b:List Int):cJ (a++b)=cJ a++cJ b:=by simp [cJ]
structure Fr(S:Nat->Prop)(w w':World):Prop where
 os:w'.os=w.os
 tape:w'.tape=w.tape
 output:w'.output=w.output
 size:w.heap.size<=w'.heap.size
 block:∀ k,k<w.heap.size->¬ S k->w'.heap[k]?=w.heap[k]?
theorem Fr.refl(S:Nat->Prop)(w:World):Fr S w w:=⟨rfl,rfl,rfl,j9 _,fun _ _ _=>rfl⟩
theorem Fr.trans{S:Nat->Prop}{a b c:World}(h:Fr S a b)(k:Fr S b c):Fr S a c:=
 ⟨k.os.trans h.os,k.tape.trans h.tape,k.output.trans h.output,j4 h.size k.size,fun i hi hs=>(k.block i (j5 hi h.size) hs).trans (h.block i hi hs)⟩
theorem Fr.below{S:Nat->Prop}{a b:World}{n:Nat}(h:Fr S a b)(hn:n<=a.heap.size)(hs:∀ k,S k->n<=k):Below n a b:=
 ⟨h.os,h.tape,h.output,h.size,fun i hi=>h.block i (j5 hi hn) (fun q=>by have:=hs i q;omega)⟩
theorem Fr.of_below{S:Nat->Prop}{a b:World}(h:Below a.heap.size a b):Fr S a b:=⟨h.os,h.tape,h.output,h.size,fun i hi _=>h.block i hi⟩
theorem Fr.alloc{S:Nat->Prop}{a w:World}(h:Fr S a w)(o:Obj):Fr S a (w.alloc o):=h.trans (Fr.of_below ((Below.refl _ _).alloc lz9 o))
theorem Fr.drew{S:Nat->Prop}{a w:World}(h:Fr S a w):Fr S a w.drew:=h.trans (Fr.of_below (Below.refl _ _).drew)
theorem Fr.setCell{S:Nat->Prop}{a w:World}(h:Fr S a w){p:Addr}(hp:S p.block)(u:Value):Fr S a (w.setCell p u):=
 h.trans ⟨rfl,rfl,rfl,by simp [World.setCell],fun k _ hk=>Below.heap_setCell _ _ _ _ (fun e=>hk (e ▸ hp))⟩
theorem Fr.setNew{S:Nat->Prop}{a w:World}(h:Fr S a w){p:Addr}(hp:a.heap.size<=p.block)(u:Value):Fr S a (w.setCell p u):=
 ⟨h.os,h.tape,h.output,by have:=h.size;simp [World.setCell];exact this,fun k hk hs=>(Below.heap_setCell _ _ _ _ (by omega)).trans (h.block k hk hs)⟩
theorem Fr.then{S:Nat->Prop}{a b c:World}(h:Fr S a b)(k:Below b.heap.size b c):Fr S a c:=h.trans (Fr.of_below k)
theorem Fr.grown{S:Nat->Prop}{a w w':World}{row:Option Nat}(h:Fr S a w)(hg:w.grownBy w' row)(hr:∀ k,row=some k->S k):Fr S a w':=
 h.trans ⟨hg.os,hg.tape,hg.output,hg.size,fun k hk hs=>hg.block k hk (fun e=>hs (hr k e.symm))⟩
theorem aC{w:World}{k:Nat}{o:Obj}(h:w.heap[k]?=some o):k<w.heap.size:=(n3.1 h).1
theorem aI{w:World}{k:Nat}{cur:Array Value}{t:TypeId}{fr:Nat×Nat}(h:w.heap[k]?=some (.cells cur t fr))(j:Nat)(v:Value):(w.setCell ⟨k,j,none⟩ v).heap[k]?=some (.cells (cur.setIfInBounds j v) t fr):=by
 simp [World.setCell,Array.getElem?_modify,h]
theorem qI{W:World}{x y:Nat}{c c':Array Value}{t t':TypeId}{f f':Nat×Nat}(h:W.heap[x]?=some (.cells c t f))(h':W.heap[y]?=some (.cells c' t' f'))(ht:t≠t'):x≠y:=fun e=>by
 rw [e,h'] at h
 injection h with h
 injection h with _ h _
 exact ht h.symm
theorem aA{W:World}{wb:Nat}{c:Array Value}{t:TypeId}(h:W.heap[wb]?=some (.cells c t (0,0))){i:Nat}{v:Value}(hi:c[i]?=some v):W.cell? ⟨wb,i,none⟩=some v:=by simp [World.cell?,h,hi]
theorem aG{W:World}{wb:Nat}{c:Array Value}{t:TypeId}(h:W.heap[wb]?=some (.cells c t (0,0)))(i:Nat):W.frozen? ⟨wb,i,none⟩=false:=by simp [World.frozen?,h]
theorem aF{n:Nat}{a b c:World}(h:Below n a b)(k:Below b.heap.size b c)(hn:n<=a.heap.size):Below n a c:=h.trans (k.mono (j4 hn h.size))
def Ext(W:World):Type:={ w:World // wBl W w }
theorem jD{P:Program}{id:Nat}{Q:Exit->Act->World->Prop}{a:Act}{w:World}{l:List Oper}(hm:P.follows .mixedOrders=true)(hB:Region.lexB .any l.toArray=true)
  (h:wpQuiet P l.toArray (fun w'=>∃ x:Ext w,w'=x.val) (fun a'=>∀ w',(∃ x:Ext w,w'=x.val)->Q .normal a' w') l a):(Code.region id l.toArray true).wp P Q a w:=
 wp_region_quiet (C:=fun w'=>∃ x:Ext w,w'=x.val) hm hB ⟨⟨w.drew,(Below.refl _ _).drew⟩,rfl⟩ (by simpa using h)
theorem wx9{P:Program}{id:Nat}{Q:Exit->Act->World->Prop}{a:Act}{w:World}{l:List Oper}(h:wpQuiet P l.toArray (fun w'=>∃ x:Ext w,w'=x.val) (fun a'=>∀ w',(∃ x:Ext w,w'=x.val)->Q .normal a' w') l a)(hm:P.follows .mixedOrders=true:=by kernel_rfl)(hB:Region.lexB .any l.toArray=true:=by kernel_rfl):(Code.region id l.toArray true).wp P Q a w:=jD hm hB h
theorem cE{P:Program}{f:FuncId}{args:Array Value}{W:World}{x:Ext W}{v:Value}
  (h:Calls P f args x.val fun e w'=>e=.returned v/\Below x.val.heap.size x.val w'):Calls P f args x.val fun e w''=>e=.returned v/\∃ y:Ext W,w''=y.val:=
 h.mono fun _ w' ⟨he,hb⟩=>⟨he,⟨w',x.2.trans (hb.mono x.2.size)⟩,rfl⟩
theorem cD{W:World}(x:Ext W)(b o:Nat)(h:b<W.heap.size):x.val.cell? ⟨b,o,none⟩=W.cell? ⟨b,o,none⟩:=x.2.cell (p:=⟨b,o,none⟩) h
theorem cZ{W w1:World}(h:∃ x:Ext W,w1=x.val):wBl W w1:=by
 obtain⟨x,rfl⟩:=h
 exact x.2
section
def dH(l:List Oper)(o:Oper):Bool:=
 (l.zipIdx.all fun x=>x.1.after.all (fun e=>decide (e.on<x.2))&&(match x.1.guard with | none=>true | some g=>decide (g.1<l.length))) &&
 o.guard.isNone&&o.after.all (fun e=>decide (e.on<l.length))&&(List.range l.length).all fun j=>o.after.any fun e=>Region.binds .any e&&e.on==j
section
variable {P:Program} {l:List Oper} {o:Oper} {Q:Exit->Act->World->Prop}
def Q1(P:Program)(l:List Oper)(o:Oper)(Q:Exit->Act->World->Prop):Exit->Act->World->Prop
 | .normal,a,w=>wpList P (l++[o]).toArray Q [o] a w
 | e,a,w=>Q e a w
theorem pI{j:Nat}(h:j<l.length):(l++[o]).toArray[j]?=l.toArray[j]?:=by
 simp [List.getElem?_append_left h]
theorem iK:(l++[o]).toArray[l.length]?=some o:=by simp
theorem eR(h:dH l o=true){j:Nat}{x:Oper}(hx:l.toArray[j]?=some x):(∀ e∈x.after,e.on<j)/\∀ g b,x.guard=some (g,b)->g<l.length:=by
 unfold dH at h
 simp only [l7,List.all_eq_true] at h
 have hm:(x,j)∈l.zipIdx:=by
  rw [List.mem_zipIdx_iff_getElem?];simpa using hx
 have:=h.1.1.1 (x,j) hm
 refine⟨fun e he=>?_,fun g b hg=>?_⟩
 ·have h1:=this.1
  rw [Array.all_eq_true_iff_forall_mem] at h1
  simpa using h1 e he
 ·have h2:=this.2
  simp only [hg] at h2
  simpa using h2
theorem mJ(h:dH l o=true):o.guard=none:=by
 unfold dH at h
 simp only [l7] at h
 simpa using h.1.1.2
theorem xP(h:dH l o=true):∀ e∈o.after,e.on<l.length:=by
 unfold dH at h
 simp only [l7] at h
 have h1:=h.1.2
 rw [Array.all_eq_true_iff_forall_mem] at h1
 intro e he
 simpa using h1 e he
theorem vC(h:dH l o=true){j:Nat}(hj:j<l.length):∃ e∈o.after,Region.binds .any e=true/\e.on=j:=by
 unfold dH at h
 simp only [l7,List.all_eq_true] at h
 have:=h.2 j (by simpa using hj)
 rw [<- Array.any_toList,List.any_eq_true] at this
 obtain⟨e,he,hb⟩:=this
 simp at hb
 exact⟨e,by simpa using he,hb.1,hb.2⟩
theorem dZ{listed:Array Bool}{j:Nat}(d:Bool)(hj:j<listed.size):(listed.push false).getD j d=listed.getD j d:=by
 simp [Array.getD_eq_getD_getElem?,Array.getElem?_push,Nat.ne_of_lt hj]
theorem kX{listed:Array Bool}(d:Bool):(listed.push false).getD listed.size d=false:=by
 simp [Array.getD_eq_getD_getElem?]
theorem iI(h:dH l o=true){listed:Array Bool}(hs:listed.size=l.length){j:Nat}(hj:j<l.length) :
  j∈Region.ready .any (l++[o]).toArray (listed.push false)↔j∈Region.ready .any l.toArray listed:=by
 rw [mem_ready,mem_ready,pI hj,dZ _ (by omega)]
 refine and_congr_right fun _=>exists_congr fun x=>and_congr_right fun hx=>?_
 have he:=(eR h hx).1
 refine forall_congr' fun e=>forall_congr' fun hm=>forall_congr' fun _=>?_
 have:=he e hm
 rw [dZ _ (by omega)]
theorem iU(h:dH l o=true){listed:Array Bool}(hs:listed.size=l.length)(hr:Region.ready .any l.toArray listed=[]) :
  ∀ j,j<l.length->listed.getD j false=true:=by
 intro j
 induction j using Nat.strongRecOn with
 | _ j ih=>
  intro hj
  have hx:l.toArray[j]?=some l[j]:=by simp [hj]
  have hn:¬ j∈Region.ready .any l.toArray listed:=by rw [hr];simp
  rw [mem_ready] at hn
  have hge:listed.getD j true=true:=by
   rcases hb:listed.getD j true with _ | _
   ·exact absurd ⟨hb,_,hx,fun e he _=>ih e.on ((eR h hx).1 e he) (by have:=(eR h hx).1 e he;omega)⟩ hn
   ·rfl
  have hlt:j<listed.size:=by omega
  simpa [Array.getD_eq_getD_getElem?,hlt] using hge
theorem iN(h:dH l o=true){listed:Array Bool}(hs:listed.size=l.length)(hr:Region.ready .any l.toArray listed=[]) :
  l.length∈Region.ready .any (l++[o]).toArray (listed.push false):=by
 rw [mem_ready]
 refine⟨by rw [<- hs];exact kX _,o,iK,fun e he _=>?_⟩
 have:=xP h e he
 rw [dZ _ (by omega)]
 exact iU h hs hr _ this
theorem jF(h:dH l o=true){listed:Array Bool}(hs:listed.size=l.length)
  (hl:l.length∈Region.ready .any (l++[o]).toArray (listed.push false)):Region.ready .any l.toArray listed=[]:=by
 rw [mem_ready] at hl
 obtain⟨_,x,hx,ha⟩:=hl
 rw [iK] at hx
 cases hx
 rw [List.eq_nil_iff_forall_not_mem]
 intro j hj
 rw [mem_ready] at hj
 obtain⟨hu,x,hx,_⟩:=hj
 have hlt:j<l.length:=by
  have:=(n3.1 hx).1
  simpa using this
 obtain⟨e,he,hb,rfl⟩:=vC h hlt
 have:=ha e he hb
 rw [dZ _ (by omega)] at this
 have hlt':e.on<listed.size:=by omega
 simp [Array.getD_eq_getD_getElem?,hlt'] at this hu
 rw [this] at hu
 cases hu
theorem jQ(h:dH l o=true){listed:Array Bool}(hs:listed.size=l.length)(hr:Region.ready .any l.toArray listed=[]) :
  Region.ready .any (l++[o]).toArray ((listed.push false).setIfInBounds l.length true)=[]:=by
 rw [List.eq_nil_iff_forall_not_mem]
 intro j hj
 rw [mem_ready] at hj
 obtain⟨hu,x,hx,_⟩:=hj
 have hlt:j<l.length+1:=by
  have:=(n3.1 hx).1
  simpa using this
 by_cases e:j=l.length
 ·subst e
  simp [Array.getD_eq_getD_getElem?,hs] at hu
 ·have hj':j<l.length:=by omega
  have:=iU h hs hr j hj'
  have hlt':j<listed.size:=by omega
  have hne:¬ l.length=j:=fun h=>e h.symm
  simp [Array.getD_eq_getD_getElem?,hne,Array.getElem?_push,Nat.ne_of_lt hlt',hlt'] at this hu
  rw [this] at hu
  cases hu
theorem rD(h:dH l o=true){j:Nat}{x:Oper}(hx:l.toArray[j]?=some x)(tmps:Array Value) :
  Region.wanted x (yielded (l++[o]).toArray tmps)=Region.wanted x (yielded l.toArray tmps):=by
 unfold Region.wanted
 cases hg:x.guard with
 | none=>rfl
 | some g=>
  obtain⟨g,b⟩:=g
  have:=(eR h hx).2 g b hg
  simp only [yielded,pI this]
theorem Oper.wp_q1{x:Oper}{a:Act}{w:World}{K K':Act->World->Prop}(hK:∀ a w,K a w->K' a w)(hh:x.wp P a w K (Q1 P l o Q)):x.wp P a w K' Q:=by
 unfold Oper.wp at *
 generalize (execOp a.eval x).run P w=r at *
 cases r with
 | ok n w'=>
  cases n <;> simp only [Oper.upon] at hh ⊢ <;>
   first
    | exact hK _ _ hh
    | exact Calls.mono hh (fun e w'' he=>by cases e <;> first | exact hK _ _ he | exact he)
    | exact Rows.mono hh (fun _ _ he=>hK _ _ he)
 | halt x w'=>cases x <;> simp only [Oper.upon] at hh ⊢ <;> exact hh
theorem yJ(h:dH l o=true){i:Nat}(hi:i<l.length){a:Act}{w:World}{K K':Act->World->Prop}(hK:∀ a w,K a w->K' a w)
  (hh:wpOp P l.toArray (Q1 P l o Q) i K a w):wpOp P (l++[o]).toArray Q i K' a w:=by
 unfold wpOp at *
 rw [pI hi]
 have hx:l.toArray[i]?=some l[i]:=by simp [hi]
 simp only [hx] at hh ⊢
 rw [rD h hx]
 split
 ·rename_i hw
  rw [if_pos hw] at hh
  exact hh.imp (Oper.wp_q1 hK) (fun g=>⟨g.1,g.2⟩)
 ·rename_i hw
  rw [if_neg hw] at hh
  exact hK _ _ hh
theorem jH(h:dH l o=true){a:Act}{w:World}{K:Act->World->Prop}(hK:∀ a w,Q .normal a w->K a w)(hh:Q1 P l o Q .normal a w) :
  wpOp P (l++[o]).toArray Q l.length K a w:=by
 unfold wpOp
 rw [iK]
 have hw:∀ y,Region.wanted o y=true:=fun y=>by unfold Region.wanted;rw [mJ h]
 have hh':wpList P (l++[o]).toArray Q [o] a w:=hh
 unfold wpList at hh'
 rw [if_pos (hw _)] at hh'
 simp only [hw,if_true]
 exact hh'.imp (Oper.wp_mono hK) id
theorem xL{listed:Array Bool}{i:Nat}(hi:i<listed.size):(listed.setIfInBounds i true).push false=(listed.push false).setIfInBounds i true:=by
 apply Array.ext'
 simp [List.set_append_left _ _ (show i<listed.toList.length by simpa using hi)]
theorem nD(h:dH l o=true):∀ (fuel:Nat) (listed:Array Bool) (a:Act) (w:World),listed.size=l.length ->
  wpAny P .any l.toArray (Q1 P l o Q) fuel listed a w->wpAny P .any (l++[o]).toArray Q (fuel+1) (listed.push false) a w:=by
 intro fuel
 induction fuel with
 | zero=>
  rintro listed a w hs ⟨hr,hq⟩
  refine⟨fun h0=>?_,fun i hi=>?_⟩
  ·have:=iN h hs hr;rw [h0] at this;cases this
  ·by_cases e:i=l.length
   ·subst e;exact jH h (fun a w hq=>⟨jQ h hs hr,hq⟩) hq
   ·have hlt:i<l.length:=by
     rw [mem_ready] at hi
     obtain⟨_,x,hx,_⟩:=hi
     have:=(n3.1 hx).1
     simp at this;omega
    rw [iI h hs hlt,hr] at hi;cases hi
 | succ fuel ih=>
  rintro listed a w hs ⟨hq,hall⟩
  refine⟨fun h0=>?_,fun i hi=>?_⟩
  ·by_cases hr:Region.ready .any l.toArray listed=[]
   ·have:=iN h hs hr;rw [h0] at this;cases this
   ·obtain⟨j,hj⟩:=List.exists_mem_of_ne_nil _ hr
    have hlt:j<l.length:=by
     rw [mem_ready] at hj
     obtain⟨_,x,hx,_⟩:=hj
     have:=(n3.1 hx).1
     simpa using this
    rw [<- iI h hs hlt,h0] at hj;cases hj
  ·by_cases e:i=l.length
   ·subst e
    have hr:=jF h hs hi
    exact jH h (fun a w hq=>⟨fun _=>hq,fun j hj=>by rw [jQ h hs hr] at hj;cases hj⟩) (hq hr)
   ·have hlt:i<l.length:=by
     rw [mem_ready] at hi
     obtain⟨_,x,hx,_⟩:=hi
     have:=(n3.1 hx).1
     simp at this;omega
    have hi':=(iI h hs hlt).1 hi
    refine yJ h hlt (fun a' w' hw=>?_) (hall i hi')
    have:=ih (listed.setIfInBounds i true) a' w' (by simpa using hs) hw
    rwa [xL (by omega)] at this
theorem iE{id:Nat}{a:Act}{w:World}(hm:P.follows .mixedOrders=true)(hB:Region.lexB .any l.toArray=true)(hl:dH l o=true)
  (h:wpQuiet P l.toArray (fun w'=>∃ x:Ext w,w'=x.val) (fun a'=>∀ w',(∃ x:Ext w,w'=x.val)->wpList P (l++[o]).toArray Q [o] a' w') l a):(Code.region id (l++[o]).toArray true).wp P Q a w:=by
 simp only [Region.lexB,l7] at hB
 refine wp_region_any hm ?_
 have h1:=wpAnyQ_lex (C:=fun w'=>∃ x:Ext w,w'=x.val) (md:=.any) hB.1 l 0 (Array.replicate l.length false) a (by simp) (by simpa using hB.2) h
 have h2:=wpAny_of_quiet (Q':=Q1 P l o Q) (fun _ w' hw' h=>h w' hw') _ _ _ { w with drawn:=w.drawn+1 } ⟨⟨w.drew,(Below.refl _ _).drew⟩,rfl⟩ h1
 have h3:=nD hl _ _ _ _ (by simp) h2
 have e:(Array.replicate l.length false).push false=Array.replicate (l++[o]).toArray.size false:=by simp [Array.replicate_succ]
 rw [e] at h3
 simpa using h3
end
theorem fN{P:Program}{Q:Exit->Act->World->Prop}{id:Nat}{a:Act}{w:World}{L:List Oper}(hne:L≠[])(hm:P.follows .mixedOrders=true)(hB:Region.lexB .any L.dropLast.toArray=true)(hl:dH L.dropLast (L.getLast hne)=true)
  (h:wpQuiet P L.dropLast.toArray (fun w'=>∃ x:Ext w,w'=x.val) (fun a'=>∀ w',(∃ x:Ext w,w'=x.val)->wpList P L.toArray Q [L.getLast hne] a' w') L.dropLast a):(Code.region id L.toArray true).wp P Q a w:=by
 have e:L.dropLast++[L.getLast hne]=L:=List.dropLast_concat_getLast hne
 have:=iE (P:=P) (Q:=Q) (id:=id) (a:=a) (w:=w) (l:=L.dropLast) (o:=L.getLast hne) hm hB hl (by rw [e];exact h)
 rwa [e] at this
end
section
open Go
def unr(P:Program)(c:Code)(Q:Exit->Act->World->Prop):Nat->Act->World->Prop
 | 0,_,_=>False
 | n+1,a,w=>c.wp P (Exit.then (unr P c Q n) Q) a w
theorem aX{P:Program}{c:Code}{Q:Exit->Act->World->Prop}{n:Nat}{a:Act}{w:World}
  (h:c.wp P (Exit.then (unr P c Q n) Q) a w):unr P c Q (n+1) a w:=h
theorem xO{p:Nat->Prop}:∀ n,p n->∃ m,p m/\∀ k,p k->m<=k:=by
 intro n
 induction n using Nat.strongRecOn with
 | _ n ih=>
  intro h
  by_cases g:∃ k,k<n/\p k
  ·obtain⟨k,hk,hp⟩:=g
   exact ih k hk hp
  ·exact⟨n,h,fun k hk=>Nat.le_of_not_lt fun hlt=>g ⟨k,hlt,hk⟩⟩
open Classical in
noncomputable def fZ (p:Nat->Prop):Nat:=if h:∃ m,p m/\∀ k,p k->m<=k then Classical.choose h else 0
theorem fY{p:Nat->Prop}{n:Nat}(h:p n):p (fZ p)/\∀ k,p k->fZ p<=k:=by
 have g:=xO n h
 unfold fZ
 rw [dif_pos g]
 exact Classical.choose_spec g
theorem cR{P:Program}{c:Code}{Q:Exit->Act->World->Prop}(n:Nat){a:Act}{w:World}
  (h:unr P c Q n a w):(Code.loop c).wp P Q a w:=by
 refine wp_loop (fun a w=>∃ n,unr P c Q n a w) (fun a w=>fZ fun n=>unr P c Q n a w) ⟨n,h⟩ ?_
 rintro a w ⟨n,hn⟩
 obtain⟨hs,-⟩:=fY (p:=fun n=>unr P c Q n a w) hn
 generalize fZ (fun n=>unr P c Q n a w)=m at hs
 cases m with
 | zero=>exact hs.elim
 | succ m=>
  refine wp_mono (show c.wp P (Exit.then (unr P c Q m) Q) a w from hs) ?_
  intro e a' w' he
  cases e with
  | normal=>exact⟨⟨m,he⟩,Nat.lt_succ_of_le ((fY (p:=fun n=>unr P c Q n a' w') (n:=m) he).2 m he)⟩
  | exit id=>exact he
  | goto l=>exact he
  | ret=>exact he
  | panic ch=>exact he
  | outgrown=>exact he
end
section
open Go Go.ChangeShapes Go.WideShapes Go.ChangeAt Go.RowKit
theorem own:ownKnob Tryz.prog.godebug=none:=by kernel_rfl
theorem aB1:laidOutB Tryz.prog=true:=by kernel_rfl
end
theorem fT:(Tryz.prog.info? 3).map (fun i=>(i.zero,i.size,i.bytes))=some (some (.int .i64 0),1,8):=by kernel_rfl
theorem dQ:Tryz.prog.underlying 31=some (.slice 3):=by kernel_rfl
theorem info_parts{P:Program}{t:TypeId}{z:Value}{s b:Nat}(h:(P.info? t).map (fun i=>(i.zero,i.size,i.bytes))=some (some z,s,b)):∃ i,P.info? t=some i/\i.zero=some z/\i.size=s/\i.bytes=b:=by
 cases hi:P.info? t with
 | none=>rw [hi] at h;cases h
 | some i=>
  rw [hi] at h
  simp at h
  exact⟨i,rfl,h.1,h.2.1,h.2.2⟩
theorem aL{S:Nat->Prop}{w w':World}{base:Nat}{t:TypeId}{size n:Nat}{v:Value}{xs:List Value}(h:w.ownsRow base t size v n xs)(hf:Fr S w w')(hs:∀ k,v.ownBlock=some k->¬ S k):w'.ownsRow base t size v n xs:=by
 obtain⟨h1,h2 | ⟨g,cap,cur,q1,q2,q3,q4⟩⟩:=h
 ·exact⟨h1,.inl h2⟩
 ·exact⟨h1,.inr ⟨g,cap,cur,q1,q2,(hf.block _ (aC q3) (hs g (by rw [q1];rfl))).trans q3,q4⟩⟩
theorem cV{w:World}{base base':Nat}{t:TypeId}{size n:Nat}{v:Value}{xs:List Value}(h:w.ownsRow base t size v n xs)(hb:base'<=base):w.ownsRow base' t size v n xs:=by
 obtain⟨h1,h2 | ⟨g',cap',cur,q1,q2,q4⟩⟩:=h
 ·exact⟨h1,.inl h2⟩
 ·exact⟨h1,.inr ⟨g',cap',cur,q1,j4 hb q2,q4⟩⟩
theorem aK{w:World}{base:Nat}{e:TypeId}{size n:Nat}{v:Value}{xs:List Value}(h:w.ownsRow base e size v n xs):∃ q c,v=.slice q n c:=by
 rcases h.2 with⟨rfl,rfl⟩ | ⟨g,cap,cur,rfl,_⟩
 ·exact⟨_,_,rfl⟩
 ·exact⟨_,_,rfl⟩
theorem aH{w:World}{base:Nat}{e:TypeId}{size n:Nat}{v:Value}{xs:List Value}(h:w.ownsRow base e size v n xs){g:Nat}(hg:v.ownBlock=some g):base<=g/\g<w.heap.size/\∃ cur,w.heap[g]?=some (.cells cur e (0,0)):=by
 rcases h.2 with⟨rfl,rfl⟩ | ⟨g',cap,cur,rfl,h1,h2,_⟩
 ·cases hg
 ·cases hg;exact⟨h1,aC h2,cur,h2⟩
theorem aJ{w:World}{base:Nat}{e t:TypeId}{size n:Nat}{v:Value}{xs:List Value}(h:w.ownsRow base e size v n xs){b:Nat}{cs:Array Value}(hb:w.heap[b]?=some (.cells cs t (0,0)))(ht:t≠e):v.ownBlock≠some b:=fun q=>by
 obtain⟨_,_,cur,hc⟩:=aH h q
 exact qI hb hc ht rfl
theorem bY{w:World}{base:Nat}{e:TypeId}{size n g c:Nat}{xs:List Value}(h:w.ownsRow base e size (.slice (some ⟨g,0,none⟩) n c) n xs){j:Nat}{u:Value}(hj:xs[j]?=some u):w.cell? ⟨g,j,none⟩=some u:=by
 rcases h.2 with⟨q,_⟩ | ⟨g',cap,cur,q1,_,q3,_,_,q6,q7⟩
 ·cases q
 ·cases q1
  have:cur[j]?=some u:=by
   rw [<- q7,List.getElem?_take] at hj
   split at hj
   ·simpa using hj
   ·cases hj
  simp [World.cell?,q3,this]
theorem gO{w:World}{base:Nat}{e:TypeId}{size n g c:Nat}{xs:List Value}(h:w.ownsRow base e size (.slice (some ⟨g,0,none⟩) n c) n xs):n<=c/\c<=maxLen:=by
 rcases h.2 with⟨q,_⟩ | ⟨g,cap,cur,q,_,_,hc,hm,_⟩
 ·cases q
 ·cases q;exact⟨hc,hm⟩
theorem cU{w:World}{base:Nat}{e:TypeId}{size n:Nat}{v:Value}{xs:List Value}(h:w.ownsRow base e size v n xs)(hn:0<n):∃ g c,v=.slice (some ⟨g,0,none⟩) n c:=by
 rcases h.2 with⟨_,q⟩ | ⟨g,cap,cur,rfl,_⟩
 ·omega
 ·exact⟨_,_,rfl⟩
theorem kS{w:World}{base:Nat}{e:TypeId}{size n g c:Nat}{xs:List Value}(h:w.ownsRow base e size (.slice (some ⟨g,0,none⟩) n c) n xs){k:Nat}(hk:k<=n):w.ownsRow base e size (.slice (some ⟨g,0,none⟩) k c) k (xs.take (k*size)):=by
 have hm:k*size<=n*size:=Nat.mul_le_mul_right _ hk
 refine⟨by rw [List.length_take,h.1];omega,.inr ?_⟩
 rcases h.2 with⟨q,_⟩ | ⟨g',cap,cur,q1,q2,q3,q4,q5,q6,q7⟩
 ·cases q
 ·cases q1
  exact⟨g,c,cur,rfl,q2,q3,by omega,q5,q6,by rw [<- q7,List.take_take,Nat.min_eq_left hm]⟩
theorem eD{P:Program}{ops:Array Oper}{o:Oper}{a:Act}{w:World}{K:Act->World->Prop}{Q:Exit->Act->World->Prop}{E:Prop}(hgd:o.guard=none)(s x:Operand)(t:TypeId)
  (ho:o.op=.call { callee:=.builtin .append,args:=#[s,x],argTypes:=#[t,t] })
  (base:Nat) (e:TypeId) (i:TypeInfo) (z:Value) (size bytes:Nat) (ht:P.underlying t=some (.slice e)) (hi:P.info? e=some i) (hz:i.zero=some z)
  (hsize:i.size=size) (hby:i.bytes=bytes) (hzs:z.cells.size=size) (hsz:0<size)
  (v:Value) (n:Nat) (xs:List Value) (hs:a.eval s=v) (hown:w.ownsRow base e size v n xs)
  (ad:Addr) (m c:Nat) (news:List Value) (hx:a.eval x=.slice (some ad) m c) (hl:news.length=m*size) (hnews:∀ j u,news[j]?=some u->w.cell? (ad.add j)=some u) (h1:∀ u∈news,u.oneCell'=true)
  (h63:n+m<=maxLen) (hbytes:(n+m)*bytes<=140737488355328) (hbase:base<=w.heap.size)
  (h:∀ v' w',w'.ownsRow base e size v' (n+m) (xs++news)->w.grownBy w' v.ownBlock->(v'.ownBlock=v.ownBlock\/v'.ownBlock=some w.heap.size)->K (a.put o.dst v') w') :
  if Region.wanted o (yielded ops a.tmps)=true then Oper.wp P o a w K Q else E:=by
 have hw:Region.wanted o (yielded ops a.tmps)=true:=by simp [Region.wanted,hgd]
 rw [if_pos hw]
 obtain⟨v',w',hrun,h2,h3,_,h5⟩:=run_append_own_at (P:=P) w base t o.type e i z size bytes ht hi hz hsize hby hzs hsz v n xs hown ad m c news hl hnews h1 h63 hbytes hbase
 unfold Oper.wp
 simp [execOp,ho,resolve,invoke,builtin,hs,hx,hrun,Result.andThen]
 exact h v' w' h2 h3 h5
theorem aE(w:World)(o:Obj):(w.alloc o).heap[w.heap.size]?=some o:=by unfold World.alloc;simp
theorem aD{p:Prop}(h:p):Hid p:=h
structure Ins where
 op:Int
 x:Int
 y:Int
 n:Int
 mn:Int
 mx:Int
 s:aQ
 deriving DecidableEq
def inC(i:Ins):List Value:=#[.int .i64 i.op,.int .i64 i.x,.int .i64 i.y,.int .i64 i.n,.int .i64 i.mn,.int .i64 i.mx,.int .u64 (aB i.s 0),.int .u64 (aB i.s 1),.int .u64 (aB i.s 2),.int .u64 (aB i.s 3)].toList
theorem dJ(i:Ins):(inC i).length=10:=rfl
theorem fD:Tryz.prog.underlying 22=some (.slice 54):=by kernel_rfl
theorem wQ:(Tryz.prog.info? 54).map (·.size)=some 10:=by kernel_rfl
theorem kW(i:Ins):∀ v∈inC i,v.oneCell'=true:=by
 intro v hv
 unfold inC at hv
 simp at hv
 rcases hv with rfl | rfl | rfl | rfl | rfl | rfl | rfl | rfl | rfl | rfl <;> rfl
theorem mM(n:Nat)(x0 x1 x2 x3 y0 y1 y2 y3:Int)(w:World) :
  (Op.equalIn (n+2) 52 (.agg #[.int .u64 x0,.int .u64 x1,.int .u64 x2,.int .u64 x3]) (.agg #[.int .u64 y0,.int .u64 y1,.int .u64 y2,.int .u64 y3])).run Tryz.prog w
   = .ok (x0==y0&&x1==y1&&x2==y2&&x3==y3) w:=by
 have u22:=Tryz.underlying50
 have a22:=Tryz.isAgg50
 have z22:=Tryz.sizeOf50
 have hu:Tryz.prog.underlying 52=some (.array 4 50):=by kernel_rfl
 rw [show n+2=(n+1)+1 from rfl,Op.equalIn]
 simp only [Sem.run_bind,run_underlying hu,Result.andThen_ok]
 simp only [Std.Legacy.Range.forIn_eq_forIn_range',Std.Legacy.Range.size,Nat.sub_zero,Nat.add_sub_cancel,Nat.div_one,List.range'_succ,List.range'_zero,List.forIn_cons,List.forIn_nil]
 go_simp
 by_cases h0:x0=y0 <;> by_cases h1:x1=y1 <;> by_cases h2:x2=y2 <;> by_cases h3:x3=y3 <;> simp [h0,h1,h2,h3]
theorem vH(n:Nat)(a0 a1 a2 a3 a4 a5 a6 a7 a8 a9 b0 b1 b2 b3 b4 b5 b6 b7 b8 b9:Int)(w:World) :
  (Op.equalIn (n+3) 54 (.agg #[.int .i64 a0,.int .i64 a1,.int .i64 a2,.int .i64 a3,.int .i64 a4,.int .i64 a5,.int .u64 a6,.int .u64 a7,.int .u64 a8,.int .u64 a9]) (.agg #[.int .i64 b0,.int .i64 b1,.int .i64 b2,.int .i64 b3,.int .i64 b4,.int .i64 b5,.int .u64 b6,.int .u64 b7,.int .u64 b8,.int .u64 b9])).run Tryz.prog w
   = .ok (a0==b0&&a1==b1&&a2==b2&&a3==b3&&a4==b4&&a5==b5&&(a6==b6&&a7==b7&&a8==b8&&a9==b9)) w:=by
 have u3:=Tryz.underlying3
 have a3':=Tryz.isAgg3
 have z3:=Tryz.sizeOf3
 have zas:=Tryz.isAgg52
 have zs:=Tryz.sizeOf52
 have hS:Tryz.prog.underlying 54=some (.struct (Tryz.prog.fieldsOf 54)):=by kernel_rfl
 have hp:Tryz.prog.stoodInHeld 54=false:=by kernel_rfl
 have EW:=mM n
 rw [show n+3=(n+2)+1 from rfl,run_equalIn_agg w (n+2) 54 _ _ hS hp]
 simp only [Program.fieldsOf,Tryz.underlying54]
 go_simp
 clear EW hS hp zas zs u3 a3' z3
 by_cases h0:a0=b0
 case neg=>simp [h0]
 by_cases h1:a1=b1
 case neg=>simp [h0,h1]
 by_cases h2:a2=b2
 case neg=>simp [h0,h1,h2]
 by_cases h3:a3=b3
 case neg=>simp [h0,h1,h2,h3]
 by_cases h4:a4=b4
 case neg=>simp [h0,h1,h2,h3,h4]
 by_cases h5:a5=b5
 case neg=>simp [h0,h1,h2,h3,h4,h5]
 by_cases h6:a6=b6 <;> by_cases h7:a7=b7 <;> by_cases h8:a8=b8 <;> by_cases h9:a9=b9 <;> simp [h0,h1,h2,h3,h4,h5,h6,h7,h8,h9]
theorem aB4(a b:Ins):(a.op==b.op&&a.x==b.x&&a.y==b.y&&a.n==b.n&&a.mn==b.mn&&a.mx==b.mx&&(aB a.s 0==aB b.s 0&&aB a.s 1==aB b.s 1&&aB a.s 2==aB b.s 2&&aB a.s 3==aB b.s 3))=decide (a=b):=by
 rw [jG,Bool.eq_iff_iff]
 obtain⟨a1,a2,a3,a4,a5,a6,a7⟩:=a
 obtain⟨b1,b2,b3,b4,b5,b6,b7⟩:=b
 simp [and_assoc]
theorem vG(a b:Ins)(w:World):(Op.equalIn 10000 54 (.agg #[.int .i64 a.op,.int .i64 a.x,.int .i64 a.y,.int .i64 a.n,.int .i64 a.mn,.int .i64 a.mx,.int .u64 (aB a.s 0),.int .u64 (aB a.s 1),.int .u64 (aB a.s 2),.int .u64 (aB a.s 3)]) (.agg #[.int .i64 b.op,.int .i64 b.x,.int .i64 b.y,.int .i64 b.n,.int .i64 b.mn,.int .i64 b.mx,.int .u64 (aB b.s 0),.int .u64 (aB b.s 1),.int .u64 (aB b.s 2),.int .u64 (aB b.s 3)])).run Tryz.prog w=.ok (decide (a=b)) w:=by
 rw [<- aB4]
 exact vH 9997 _ _ _ _ _ _ _ _ _ _ _ _ _ _ _ _ _ _ _ _ w
theorem cC(a b:Ins)(w:World):(binOp .neq 54 (.agg #[.int .i64 a.op,.int .i64 a.x,.int .i64 a.y,.int .i64 a.n,.int .i64 a.mn,.int .i64 a.mx,.int .u64 (aB a.s 0),.int .u64 (aB a.s 1),.int .u64 (aB a.s 2),.int .u64 (aB a.s 3)]) (.agg #[.int .i64 b.op,.int .i64 b.x,.int .i64 b.y,.int .i64 b.n,.int .i64 b.mn,.int .i64 b.mx,.int .u64 (aB b.s 0),.int .u64 (aB b.s 1),.int .u64 (aB b.s 2),.int .u64 (aB b.s 3)])).run Tryz.prog w=.ok (.bool (!decide (a=b))) w:=by
 have e':(Op.equal 54 (.agg #[.int .i64 a.op,.int .i64 a.x,.int .i64 a.y,.int .i64 a.n,.int .i64 a.mn,.int .i64 a.mx,.int .u64 (aB a.s 0),.int .u64 (aB a.s 1),.int .u64 (aB a.s 2),.int .u64 (aB a.s 3)]) (.agg #[.int .i64 b.op,.int .i64 b.x,.int .i64 b.y,.int .i64 b.n,.int .i64 b.mn,.int .i64 b.mx,.int .u64 (aB b.s 0),.int .u64 (aB b.s 1),.int .u64 (aB b.s 2),.int .u64 (aB b.s 3)])).run Tryz.prog w=.ok (decide (a=b)) w:=vG a b w
 simp only [binOp]
 simp [e']
def LI(w:World)(q:Option Addr)(L:List Ins):Prop:=∀ (j:Nat) (i:Ins),L[j]?=some i->∃ g o,q=some ⟨g,o,none⟩/\g<w.heap.size/\w.rangeAt g (o+j*10) (inC i)
theorem pF{V V':World}{g o:Nat}{cs:List Value}(h:V.rangeAt g o cs)(e:V'.heap[g]?=V.heap[g]?):V'.rangeAt g o cs:=fun j v hv=>by
 have:=h j v hv
 unfold World.cell? at this ⊢
 rw [e]
 exact this
theorem LI.same{w w':World}{q:Option Addr}{L:List Ins}(h:LI w q L)(he:∀ g o,q=some ⟨g,o,none⟩->g<w.heap.size->w'.heap[g]?=w.heap[g]?)(hs:w.heap.size<=w'.heap.size):LI w' q L:=fun j i hi=>by
 obtain⟨g,o,h1,h2,h3⟩:=h j i hi
 exact⟨g,o,h1,j5 h2 hs,pF h3 (he g o h1 h2)⟩
theorem LI.kept{w w':World}{q:Option Addr}{L:List Ins}(h:LI w q L)(hb:wBl w w'):LI w' q L:=h.same (fun g _ _ hg=>hb.block g hg) hb.size
theorem LI.ten{w:World}{q:Option Addr}{L:List Ins}(h:LI w q L){j:Nat}{i:Ins}(hi:L[j]?=some i):∃ g o,q=some ⟨g,o,none⟩/\g<w.heap.size/\w.cell? ⟨g,o+j*10,none⟩=some (.int .i64 i.op)/\w.cell? ⟨g,o+j*10+1,none⟩=some (.int .i64 i.x)/\w.cell? ⟨g,o+j*10+2,none⟩=some (.int .i64 i.y)/\w.cell? ⟨g,o+j*10+3,none⟩=some (.int .i64 i.n)/\w.cell? ⟨g,o+j*10+4,none⟩=some (.int .i64 i.mn)/\w.cell? ⟨g,o+j*10+5,none⟩=some (.int .i64 i.mx)/\w.cell? ⟨g,o+j*10+6,none⟩=some (.int .u64 (aB i.s 0))/\w.cell? ⟨g,o+j*10+7,none⟩=some (.int .u64 (aB i.s 1))/\w.cell? ⟨g,o+j*10+8,none⟩=some (.int .u64 (aB i.s 2))/\w.cell? ⟨g,o+j*10+9,none⟩=some (.int .u64 (aB i.s 3)):=by
 obtain⟨g,o,h1,h2,h3⟩:=h j i hi
 exact⟨g,o,h1,h2,h3 0 _ rfl,h3 1 _ rfl,h3 2 _ rfl,h3 3 _ rfl,h3 4 _ rfl,h3 5 _ rfl,h3 6 _ rfl,h3 7 _ rfl,h3 8 _ rfl,h3 9 _ rfl⟩
section
attribute [local go_sem] Oper.semAt_some cD
structure Pg where
 q:Option Addr
 L:List Ins
 c:Nat
 g:Int
 k:Int
 f:Bool
structure PgI(w:World)(p:Pg):Prop where
 len:p.L.length<=9223372036854775807
 li:LI w p.q p.L
theorem PgI.kept{w w':World}{p:Pg}(h:PgI w p)(hb:wBl w w'):PgI w' p:=⟨h.len,h.li.kept hb⟩
def dK(i:Ins):Bool:=i.op==8||i.op==9||i.op==10
theorem aB7(i:Ins)(w:World):Calls Tryz.prog 37 #[.agg #[.int .i64 i.op,.int .i64 i.x,.int .i64 i.y,.int .i64 i.n,.int .i64 i.mn,.int .i64 i.mx,.int .u64 (aB i.s 0),.int .u64 (aB i.s 1),.int .u64 (aB i.s 2),.int .u64 (aB i.s 3)]] w fun e w'=>e=.returned (.bool (dK i))/\wBl w w':=by
 have B1:Hid (wBl w (w.alloc (.cells #[.int .i64 i.op,.int .i64 i.x,.int .i64 i.y,.int .i64 i.n,.int .i64 i.mn,.int .i64 i.mx,.int .u64 (aB i.s 0),.int .u64 (aB i.s 1),.int .u64 (aB i.s 2),.int .u64 (aB i.s 3)] 54))):=bz9
 have c0:(w.alloc (.cells #[.int .i64 i.op,.int .i64 i.x,.int .i64 i.y,.int .i64 i.n,.int .i64 i.mn,.int .i64 i.mx,.int .u64 (aB i.s 0),.int .u64 (aB i.s 1),.int .u64 (aB i.s 2),.int .u64 (aB i.s 3)] 54)).cell? ⟨w.heap.size,0,none⟩=some (.int .i64 i.op):=aA (aE w (.cells #[.int .i64 i.op,.int .i64 i.x,.int .i64 i.y,.int .i64 i.n,.int .i64 i.mn,.int .i64 i.mx,.int .u64 (aB i.s 0),.int .u64 (aB i.s 1),.int .u64 (aB i.s 2),.int .u64 (aB i.s 3)] 54)) (i:=0) rfl
 obtain⟨r,hr⟩:∃ r,dK i=r:=⟨_,rfl⟩
 rw [hr]
 have R:Hid ((i.op==8||i.op==9||i.op==10)=r):=hr
 clear hr
 go_enter Tryz.func37,Tryz.ntmps37
 go_upto_region 1 with fail
 generalize (w.alloc (.cells #[.int .i64 i.op,.int .i64 i.x,.int .i64 i.y,.int .i64 i.n,.int .i64 i.mn,.int .i64 i.mx,.int .u64 (aB i.s 0),.int .u64 (aB i.s 1),.int .u64 (aB i.s 2),.int .u64 (aB i.s 3)] 54))=w1 at B1 c0 ⊢
 obtain⟨o,ho⟩:∃ o,i.op=o:=⟨_,rfl⟩
 rw [ho] at c0 R ⊢
 clear ho
 by_cases h8:o=8
 ·subst h8
  go_wp2
  go_ret
  exact⟨by rw [<- R.o];rfl,B1.o⟩
 ·by_cases h9:o=9
  ·subst h9
   go_wp2
   go_ret
   exact⟨by rw [<- R.o];rfl,B1.o⟩
  ·go_wp2
   go_ret
   exact⟨by rw [<- R.o];rfl,B1.o⟩
structure IxI(i:Int)(b:Bool):Prop where
 h:0<=i↔b=true
theorem xR{w:World}{L:List Ins}{q:Option Addr}{c:Nat}(hm:L.length<=9223372036854775807)(hx:LI w q L) :
  Calls Tryz.prog 58 #[.slice q L.length c,.func (.func 37) #[] #[]] w fun e w'=>∃ i:Int,e=.returned (.int .i64 i)/\IxI i (L.any dK)/\wBl w w':=by
 have H1:=aD hx
 clear hx
 go_enter Tryz.func58,Tryz.ntmps58
 go_wp2
 go_loopw [8] (fun i wr=>∃ j:Nat,j<=L.length/\i=.int .i64 (j:Int)/\(L.take j).any dK=false/\wBl w wr) (fun i _=>L.length-(intOf i).toNat)
 case atStart=>exact⟨0,Nat.zero_le _,rfl,rfl,Below.refl _ _⟩
 case round=>
  obtain⟨j,hj,rfl,hpre,hbel⟩:=hrel
  have HP:=aD hpre
  have HB:=aD hbel
  clear hpre hbel
  by_cases hjl:j<L.length
  ·have i0:(j:Int)<(L.length:Int):=by omega
   obtain⟨a9,hga⟩:∃ a,L[j]?=some a:=⟨_,i8 hjl⟩
   obtain⟨g1,o1,hq1,hl1,c0,c1,c2,c3,c4,c5,c6,c7,c8,c9⟩:=(H1.o.kept HB.o).ten hga
   have GA:=aD hga
   have HC:=aD (aB7 a9 wr)
   obtain⟨sb,hsb⟩:∃ sb,dK a9=sb:=⟨_,rfl⟩
   have HSB:=aD hsb
   rw [hsb] at HC
   rw [hq1]
   clear hga hsb
   cases sb with
   | true=>
    have HN:Hid (IxI (j:Int) (L.any dK)):=⟨⟨fun _=>List.any_eq_true.2 ⟨a9,n6 GA.o,HSB.o⟩,fun _=>by omega⟩⟩
    go_wp2_with (go_at_call 37;(with_reducible refine(HC.o).mono ?_);rintro e w5 ⟨rfl,h5⟩;have B5:Hid (wBl w w5):=aF HB.o h5 lz9;clear h5)
    go_ret
    exact⟨_,rfl,HN.o,B5.o⟩
   | false=>
    have HN:=aD (show (L.take (j+1)).any dK=false by rw [n5,GA.o,List.any_append,HP.o];simpa using HSB.o)
    go_wp2_with (go_at_call 37;(with_reducible refine(HC.o).mono ?_);rintro e w5 ⟨rfl,h5⟩;have B5:Hid (wBl w w5):=aF HB.o h5 lz9;clear h5)
    go_roundw
    case rel=>exact⟨j+1,by omega,by go_num,HN.o,B5.o⟩
    case measure=>simp only [intOf];omega
  ·have i0:¬ (j:Int)<(L.length:Int):=by omega
   have HN:Hid (IxI (-1) (L.any dK)):=by
    have:=HP.o
    rw [k6 (by omega)] at this
    refine⟨⟨fun h=>by omega,fun h=>?_⟩⟩
    rw [this] at h
    cases h
   go_wp2
   go_ret
   exact⟨_,rfl,HN.o,HB.o⟩
theorem mQ{w:World}{L:List Ins}{q:Option Addr}{c:Nat}(hm:L.length<=9223372036854775807)(hx:LI w q L) :
  Calls Tryz.prog 36 #[.slice q L.length c,.func (.func 37) #[] #[]] w fun e w'=>e=.returned (.bool (L.any dK))/\wBl w w':=by
 have HI:=aD (xR (c:=c) hm hx)
 obtain⟨r,hr⟩:∃ r,L.any dK=r:=⟨_,rfl⟩
 rw [hr] at HI ⊢
 clear hr hx
 go_enter Tryz.func36,Tryz.ntmps36
 go_wp2_with (go_at_call 58;(with_reducible refine(HI.o).mono ?_);rintro e w5 ⟨ix,rfl,h51,h52⟩;have X5:=aD h51;have B5:=aD h52;clear h51 h52)
 go_ret
 refine⟨?_,B5.o⟩
 have:=X5.o.h
 cases r <;> simp_all
def eV(p:Pg):Bool:=!p.L.any dK
theorem xX{w:World}{p:Pg}(h:PgI w p):Calls Tryz.prog 14 #[.agg #[.slice p.q p.L.length p.c,.int .i64 p.g,.int .i64 p.k,.bool p.f]] w fun e w'=>e=.returned (.bool (eV p))/\wBl w w':=by
 have B1:Hid (wBl w (w.alloc (.cells #[.slice p.q p.L.length p.c,.int .i64 p.g,.int .i64 p.k,.bool p.f] 24))):=bz9
 have c0:(w.alloc (.cells #[.slice p.q p.L.length p.c,.int .i64 p.g,.int .i64 p.k,.bool p.f] 24)).cell? ⟨w.heap.size,0,none⟩=some (.slice p.q p.L.length p.c):=aA (aE w (.cells #[.slice p.q p.L.length p.c,.int .i64 p.g,.int .i64 p.k,.bool p.f] 24)) (i:=0) rfl
 have HC:=aD (mQ (c:=p.c) h.len (h.li.kept B1.o))
 unfold eV
 obtain⟨r,hr⟩:∃ r,p.L.any dK=r:=⟨_,rfl⟩
 rw [hr] at HC ⊢
 clear hr h
 go_enter Tryz.func14,Tryz.ntmps14
 go_wp2_with (go_at_call 36;(with_reducible refine(HC.o).mono ?_);rintro e w5 ⟨rfl,h52⟩;have B5:=aD (aF B1.o h52 lz9);clear h52)
 go_ret
 exact⟨rfl,B5.o⟩
end
theorem pW:(Tryz.prog.info? 5).map (fun i=>(i.zero,i.size,i.bytes))=some (some (.int .u8 0),1,1):=by kernel_rfl
theorem pU:Tryz.prog.underlying 56=some (.slice 5):=by kernel_rfl
theorem yW:Tryz.prog.underlying 9=some .string:=by kernel_rfl
theorem nE:Tryz.prog.underlying 65=some (.pointer 67):=by kernel_rfl
theorem wK:Tryz.prog.underlying 130=some .unsafePointer:=by kernel_rfl
theorem wP:(Tryz.prog.info? 67).map (·.size)=some 2:=by kernel_rfl
def txt(l:List UInt8):ByteArray:=⟨l.toArray⟩
theorem aR(l:List UInt8):(txt l).size=l.length:=by simp [txt,ByteArray.size]
theorem rG(l:List UInt8):Lib.strCells (txt l)=Lib.byteCells l:=rfl
abbrev OB(base:Nat)(w:World)(v:Value)(l:List UInt8):Prop:=w.ownsRow base 5 1 v l.length (Lib.byteCells l)
structure BT(T:TypeId)(k:Nat):Prop where
 ne:T≠5
 lies:liesAt Tryz.prog Tryz.prog.depth T ((k+2)/Tryz.prog.cellsOf T) k 67 1=true
theorem bt0:BT 67 0:=⟨by decide,by kernel_rfl⟩
abbrev Oth(b:Nat)(w w':World):Prop:=Lib.OthersKept 5 (some b) w w'
def BL(T:TypeId)(base:Nat)(w:World)(b:Nat)(pre:List Value)(l:List UInt8):Prop:=
 ∃ p v,w.heap[b]?=some (.cells (pre++[p,v]).toArray T (0,0))/\(p=.pointer none\/p=.pointer (some ⟨b,pre.length,none⟩))/\OB base w v l/\(l=[]->v=.slice none 0 0)/\base<=b
theorem gG{w:World}{b:Nat}{T:TypeId}{pre:List Value}{p v:Value}(h:w.heap[b]?=some (.cells (pre++[p,v]).toArray T (0,0))) :
  w.cell? ⟨b,pre.length,none⟩=some p/\w.cell? ⟨b,pre.length+1,none⟩=some v/\∀ i,w.frozen? ⟨b,i,none⟩=false:=
 ⟨aA h (by simp),aA h (by simp),aG h⟩
theorem kR{w:World}{b:Nat}{T:TypeId}{pre:List Value}{p v:Value}(h:w.heap[b]?=some (.cells (pre++[p,v]).toArray T (0,0)))(q:Value) :
  (w.setCell ⟨b,pre.length,none⟩ q).heap[b]?=some (.cells (pre++[q,v]).toArray T (0,0))/\(w.setCell ⟨b,pre.length+1,none⟩ q).heap[b]?=some (.cells (pre++[p,q]).toArray T (0,0)):=by
 refine⟨(aI h _ _).trans ?_,(aI h _ _).trans ?_⟩
 ·congr 2
  apply Array.ext'
  simp
 ·congr 2
  apply Array.ext'
  simp
theorem iL{base:Nat}{w:World}{v:Value}{l:List UInt8}{b:Nat}{cs:Array Value}{T:TypeId}(h:OB base w v l)(hb:w.heap[b]?=some (.cells cs T (0,0)))(hT:T≠5):v.ownBlock≠some b:=aJ h hb hT
theorem pM{base:Nat}{w:World}{v:Value}{l:List UInt8}{b:Nat}(h:OB base w v l)(hn:v.ownBlock≠some b)(i:Nat)(q:Value):OB base (w.setCell ⟨b,i,none⟩ q) v l:=
 aL h ((Fr.refl (fun z=>z=b) w).setCell (p:=⟨b,i,none⟩) rfl q) (fun k hk e=>hn (by rw [hk,e]))
def aH9(T:TypeId)(base:Nat)(w:World)(b:Nat)(pre:List Value)(l:List UInt8)(e:Ending)(w':World):Prop:=
 e=.returned (.tuple #[])/\(∃ v,w'.heap[b]?=some (.cells (pre++[.pointer (some ⟨b,pre.length,none⟩),v]).toArray T (0,0))/\OB base w' v l/\(l=[]->v=.slice none 0 0)/\base<=b)/\Below base w w'/\Oth b w w'
theorem gQ{T:TypeId}{base:Nat}{w:World}{b:Nat}{pre:List Value}{l:List UInt8}(hT:BT T pre.length)(h:BL T base w b pre l) :
  Calls Tryz.prog 64 #[.pointer (some ⟨b,pre.length,none⟩)] w (aH9 T base w b pre l):=by
 obtain⟨p,v,h1,h2,h3,h4,h5⟩:=h
 obtain⟨c0,c1,fz⟩:=gG h1
 obtain⟨j,hj,hjs⟩:=Option.map_eq_some_iff.1 wP
 have H:Hid (w.heap[b]?=some (.cells (pre++[p,v]).toArray T (0,0))/\OB base w v l/\(l=[]->v=.slice none 0 0)/\base<=b):=⟨h1,h3,h4,h5⟩
 have hsh:w.shape? b=some (T,pre.length+2):=by simp [World.shape?,h1]
 clear h1 h3 h4 h5
 obtain⟨k,hk⟩:∃ k,pre.length=k:=⟨_,rfl⟩
 have lies:=hT.lies
 have HK:Hid (pre.length=k):=hk
 rw [hk] at c0 c1 h2 hsh lies ⊢
 clear hk
 rcases h2 with rfl | rfl
 ·have fz0:=fz k
  go_enter Tryz.func64,Tryz.ntmps64
  go_wp2
  rw [Lib.run_to_unsafe w ⟨b,k,none⟩ nE wK hj (by rw [hjs];decide) hsh (by simp only;omega)]
  simp only [Result.andThen]
  rw [Oper.upon_value]
  go_wp2
  rw [run_callFunc_extern Tryz.func81 (by kernel_rfl) (by kernel_rfl) (by kernel_rfl) (e:=Extern.AbiNoEscape.same) (by kernel_rfl)]
  rw [Lib.run_noEscape]
  simp only [Result.andThen]
  rw [Oper.upon_value]
  go_wp2
  rw [Lib.run_from_unsafe w ⟨b,k,none⟩ wK nE hj hsh lies]
  simp only [Result.andThen]
  rw [Oper.upon_value]
  go_wp2
  go_end0
  rw [<- HK.o]
  refine⟨rfl,⟨v,(kR H.o.1 _).1,pM H.o.2.1 (iL H.o.2.1 H.o.1 hT.ne) _ _,H.o.2.2.1,H.o.2.2.2⟩,(Below.refl base w).setCell (p:=⟨b,_,none⟩) H.o.2.2.2 _,(Lib.OthersKept.refl _ _ w).setCell ⟨b,_,none⟩ rfl _⟩
 ·go_enter Tryz.func64,Tryz.ntmps64
  go_wp2
  rw [Lib.run_neq_ptr_same w _ nE hj]
  go_wp2
  go_end0
  exact⟨rfl,⟨v,by rw [HK.o];exact H.o.1,H.o.2⟩,Below.refl base _,Lib.OthersKept.refl _ _ _⟩
def jX(T:TypeId)(base:Nat)(w:World)(b:Nat)(pre:List Value)(l:List UInt8)(w':World):Prop:=BL T base w' b pre l/\Below base w w'/\Oth b w w'
theorem fL{T:TypeId}{base:Nat}{w:World}{b:Nat}{pre:List Value}{l:List UInt8}(hT:BT T pre.length)(h:BL T base w b pre l)(s:List UInt8)(hl:l.length+s.length<=140737488355328)(hb:base<=w.heap.size) :
  Calls Tryz.prog 48 #[.pointer (some ⟨b,pre.length,none⟩),.string (txt s)] w fun e w'=>e=.returned (.tuple #[.int .i64 (s.length:Int),.nilIface])/\jX T base w b pre (l++s) w':=by
 obtain⟨t0,hi,hz0,hz1,hz2⟩:=info_parts pW
 have HC:=gQ hT h
 have hz:=aR s
 have HB:Hid (base<=w.heap.size):=hb
 obtain⟨k,hk⟩:∃ k,pre.length=k:=⟨_,rfl⟩
 have HK:Hid (pre.length=k):=hk
 rw [hk] at HC ⊢
 clear hk h
 go_enter Tryz.func48,Tryz.ntmps48
 go_wp2_with (go_at_call 64;(with_reducible refine HC.mono ?_))
 rintro e w1 ⟨rfl,⟨v,h1,h2,h3,h4⟩,h5,h6⟩
 obtain⟨c0,c1,fz⟩:=gG h1
 rw [HK.o] at c0 c1
 have X1:Hid (w1.heap[b]?=some (.cells (pre++[.pointer (some ⟨b,pre.length,none⟩),v]).toArray T (0,0))/\OB base w1 v l/\(l=[]->v=.slice none 0 0)/\base<=b/\Below base w w1/\Oth b w w1):=⟨h1,h2,h3,h4,h5,h6⟩
 have hs1:=h5.size
 clear h1 h2 h3 h4 h5 h6
 go_wp2_with (at_builtin;refine Lib.wpList_append_own_string _ rfl _ _ 56 9 rfl base 5 t0 pU yW hi hz0 hz1 hz2 _ _ _ rfl X1.o.2.1 (txt s) rfl ?c3 ?c4 ?c5 ?_)
 case c3=>rw [hz];unfold maxLen;omega
 case c4=>rw [hz];omega
 case c5=>omega
 intro v' w2 hown' hgrow hnil
 have hb2:w2.heap[b]?=some (.cells (pre++[.pointer (some ⟨b,pre.length,none⟩),v]).toArray T (0,0)):=by
  rw [hgrow.block b (aC X1.o.1) (fun e=>iL X1.o.2.1 X1.o.1 hT.ne e.symm)]
  exact X1.o.1
 obtain⟨d0,d1,fz2⟩:=gG hb2
 rw [HK.o] at d0 d1
 have f1:=fz2 (k+1)
 rw [rG] at hown'
 have X2:Hid (w2.heap[b]?=some (.cells (pre++[.pointer (some ⟨b,pre.length,none⟩),v]).toArray T (0,0))/\w2.ownsRow base 5 1 v' (l.length+s.length) (Lib.byteCells l++Lib.byteCells s)/\w1.grownBy w2 v.ownBlock):=⟨hb2,hown',hgrow⟩
 have N2:Hid _:=hnil
 obtain⟨q2,k2,rfl⟩:=aK hown'
 clear hb2 hown' hgrow hnil
 go_wp2
 go_ret2
 have hO:OB base w2 (.slice q2 (l.length+s.length) k2) (l++s):=by
  unfold OB
  rw [j2,show Lib.byteCells (l++s)=Lib.byteCells l++Lib.byteCells s by simp [Lib.byteCells]]
  exact X2.o.2.1
 refine⟨by first | rfl | rw [hz],⟨_,_,(by rw [<- HK.o];exact(kR X2.o.1 _).2),.inr rfl,?_,fun e=>?_,X1.o.2.2.2.1⟩,?_,?_⟩
 ·exact pM hO (iL hO X2.o.1 hT.ne) _ _
 ·obtain⟨e1,e2⟩:=List.append_eq_nil_iff.1 e
  exact N2.o.2 ⟨X1.o.2.2.1 e1,by simp [e2]⟩
 ·exact(X1.o.2.2.2.2.1.trans ((Below.refl base w1).grown X2.o.2.2 (by omega) (fun k hk=>(aH X1.o.2.1 hk).1))).setCell (p:=⟨b,_,none⟩) X1.o.2.2.2.1 _
 ·exact(X1.o.2.2.2.2.2.grown X2.o.2.2 (Lib.ownsRowF_kind (World.ownsRowF_of X1.o.2.1))).setCell ⟨b,_,none⟩ rfl _
theorem bH(W:World)(a:Value)(t:TypeId):∀ (j:Nat) (u:Value),[a][j]?=some u->(W.alloc (.cells #[a] t)).cell? ((⟨W.heap.size,0,none⟩:Addr).add j)=some u:=by
 intro j u h
 match j,h with
 | 0,h=>
  simp at h
  subst h
  have e:(⟨W.heap.size,0,none⟩:Addr).add 0=⟨W.heap.size,0,none⟩:=by simp [Addr.add]
  rw [e]
  exact aA (aE W _) rfl
theorem gN{T:TypeId}{base:Nat}{w:World}{b:Nat}{pre:List Value}{l:List UInt8}(hT:BT T pre.length)(h:BL T base w b pre l)(x:UInt8)(hl:l.length+1<=140737488355328)(hb:base<=w.heap.size) :
  Calls Tryz.prog 50 #[.pointer (some ⟨b,pre.length,none⟩),.int .u8 (x.toNat:Int)] w fun e w'=>e=.returned .nilIface/\jX T base w b pre (l++[x]) w':=by
 obtain⟨t0,hi,hz0,hz1,hz2⟩:=info_parts pW
 have HC:=gQ hT h
 have HB:Hid (base<=w.heap.size):=hb
 obtain⟨k,hk⟩:∃ k,pre.length=k:=⟨_,rfl⟩
 have HK:Hid (pre.length=k):=hk
 rw [hk] at HC ⊢
 clear hk h
 go_enter Tryz.func50,Tryz.ntmps50
 go_wp2_with (go_at_call 64;(with_reducible refine HC.mono ?_))
 rintro e w1 ⟨rfl,⟨v,h1,h2,h3,h4⟩,h5,h6⟩
 obtain⟨c0,c1,fz⟩:=gG h1
 rw [HK.o] at c0 c1
 have X1:Hid (w1.heap[b]?=some (.cells (pre++[.pointer (some ⟨b,pre.length,none⟩),v]).toArray T (0,0))/\OB base w1 v l/\(l=[]->v=.slice none 0 0)/\base<=b/\Below base w w1/\Oth b w w1):=⟨h1,h2,h3,h4,h5,h6⟩
 have hs1:=h5.size
 clear h1 h2 h3 h4 h5 h6
 go_wp2_with (at_builtin;refine wpList_append_own_at _ rfl _ _ 56 rfl base 5 t0 (.int .u8 0) 1 1 pU hi hz0 hz1 hz2 rfl (by decide) _ _ _ rfl (i9 X1.o.2.1 _) ⟨w1.heap.size,0,none⟩ 1 1 (Lib.byteCells [x]) rfl rfl (bH _ _ _) (by simp [Lib.byteCells,Value.oneCell']) ?c3 ?c4 ?c5 ?_)
 case c3=>unfold maxLen;omega
 case c4=>omega
 case c5=>simp;omega
 intro v' w2 hown' hgrow _ hblk
 have hb1':(w1.alloc (.cells #[.int .u8 (x.toNat:Int)] 5)).heap[b]?=some (.cells (pre++[.pointer (some ⟨b,pre.length,none⟩),v]).toArray T (0,0)):=(Below.heap_alloc w1 _ b (aC X1.o.1)).trans X1.o.1
 have hb2:w2.heap[b]?=some (.cells (pre++[.pointer (some ⟨b,pre.length,none⟩),v]).toArray T (0,0)):=by
  rw [hgrow.block b (aC hb1') (fun e=>iL X1.o.2.1 X1.o.1 hT.ne e.symm)]
  exact hb1'
 obtain⟨d0,d1,fz2⟩:=gG hb2
 rw [HK.o] at d0 d1
 have f1:=fz2 (k+1)
 have X2:Hid (w2.heap[b]?=some (.cells (pre++[.pointer (some ⟨b,pre.length,none⟩),v]).toArray T (0,0))/\w2.ownsRow base 5 1 v' (l.length+1) (Lib.byteCells l++Lib.byteCells [x])/\(w1.alloc (.cells #[.int .u8 (x.toNat:Int)] 5)).grownBy w2 v.ownBlock):=⟨hb2,hown',hgrow⟩
 obtain⟨q2,k2,rfl⟩:=aK hown'
 clear hb2 hown' hgrow hblk hb1'
 go_wp2
 go_ret
 have hO:OB base w2 (.slice q2 (l.length+1) k2) (l++[x]):=by
  unfold OB
  rw [j2,show Lib.byteCells (l++[x])=Lib.byteCells l++Lib.byteCells [x] by simp [Lib.byteCells]]
  exact X2.o.2.1
 refine⟨rfl,⟨_,_,(by rw [<- HK.o];exact(kR X2.o.1 _).2),.inr rfl,pM hO (iL hO X2.o.1 hT.ne) _ _,fun e=>(by simp at e),X1.o.2.2.2.1⟩,?_,?_⟩
 ·exact(X1.o.2.2.2.2.1.trans (((Below.refl base w1).alloc (by omega) _).grown X2.o.2.2 (by simp;omega) (fun k hk=>(aH X1.o.2.1 hk).1))).setCell (p:=⟨b,_,none⟩) X1.o.2.2.2.1 _
 ·exact((X1.o.2.2.2.2.2.alloc _).grown X2.o.2.2 (Lib.ownsRowF_kind (World.ownsRowF_of (i9 X1.o.2.1 _)))).setCell ⟨b,_,none⟩ rfl _
theorem lP{T:TypeId}{base:Nat}{w:World}{b:Nat}{pre:List Value}{l:List UInt8}(h:BL T base w b pre l) :
  Calls Tryz.prog 28 #[.pointer (some ⟨b,pre.length,none⟩)] w fun e w'=>e=.returned (.string (txt l))/\Below base w w'/\Oth b w w':=by
 obtain⟨p,v,h1,h2,h3,h4,h5⟩:=h
 obtain⟨c0,c1,fz⟩:=gG h1
 obtain⟨k,hk⟩:∃ k,pre.length=k:=⟨_,rfl⟩
 rw [hk] at c0 c1 ⊢
 clear hk h1 h2 h5
 have H3:Hid (OB base w v l):=h3
 by_cases h0:l=[]
 ·subst h0
  have hv:=h4 rfl
  subst hv
  have hUS:∀ W:World,(Builtin.unsafeString_ #[101,3] 9 #[.pointer none,.int .i64 0]).run Tryz.prog W=.ok (.string .empty) W:=fun W=>Lib.run_unsafeString_none W _ _ _ none
  have c1':w.drew.cell? ⟨b,k+1,none⟩=some (.slice none 0 0):=c1
  have hSD:(Builtin.unsafeSliceData_ #[56] 101 #[.slice none 0 0]).run Tryz.prog w.drew=.ok (.pointer none) w.drew:=rfl
  clear h3 h4
  go_enter Tryz.func28,Tryz.ntmps28
  go_wp2
  go_region
  all_goals (go_wp2;go_ret;exact⟨rfl,Below.drew (Below.refl base w),(Lib.OthersKept.refl _ _ w).drew⟩)
 ·have hl0:l.length≠0:=fun e=>h0 (r6 e)
  obtain⟨g,cap,cur,rfl,hbg,hg,hnc,hcm,hcs,htake⟩:∃ g cap cur,v=.slice (some ⟨g,0,none⟩) l.length cap/\base<=g/\w.heap[g]?=some (.cells cur 5 (0,0))/\l.length<=cap/\cap<=maxLen/\cur.size=cap*1/\cur.toList.take (l.length*1)=Lib.byteCells l:=by
   rcases h3.2 with⟨_,hz⟩ | ⟨g,cap,cur,hv,r⟩
   ·exact absurd hz hl0
   ·exact⟨g,cap,cur,hv,r⟩
  have c1':w.drew.cell? ⟨b,k+1,none⟩=some (.slice (some ⟨g,0,none⟩) l.length cap):=c1
  have hSD:(Builtin.unsafeSliceData_ #[56] 101 #[.slice (some ⟨g,0,none⟩) l.length cap]).run Tryz.prog w.drew=.ok (.pointer (some ⟨g,0,none⟩)) w.drew:=
   Lib.run_unsafeSliceData_row _ _ _ _ _ _ (by omega)
  have hUS:(Builtin.unsafeString_ #[101,3] 9 #[.pointer (some ⟨g,0,none⟩),.int .i64 (l.length:Int)]).run Tryz.prog w.drew=.ok (.string (txt l)) (w.drew.freeze ⟨g,0,none⟩ l.length):=by
   refine Lib.run_unsafeString_row w.drew 101 3 9 5 Tryz.underlying101 (by kernel_rfl) g cur.size (by have hg':w.drew.heap[g]?=some (.cells cur 5 (0,0)):=hg;simp [World.shape?,hg']) l h0 (by omega) (by unfold maxLen at hcm;omega) ?_
   intro j x hx
   exact H3.o.cells (g:=g) rfl j (.int .u8 x.toNat) (by simp [Lib.byteCells,hx])
  have HBG:Hid (base<=g/\w.heap[g]?=some (.cells cur 5 (0,0))):=⟨hbg,hg⟩
  clear h3 h4 hg hnc hcm hcs htake h0 hl0 hbg
  go_enter Tryz.func28,Tryz.ntmps28
  go_wp2
  go_region
  all_goals (go_wp2;go_ret;exact⟨rfl,Lib.below_freeze (Below.drew (Below.refl base w)) (p:=⟨g,0,none⟩) HBG.o.1 _,((Lib.OthersKept.refl _ _ w).drew).freeze ⟨g,0,none⟩ _ ⟨_,_,HBG.o.2⟩⟩)
section
attribute [local go_sem] Oper.semAt_some cD
def shW(o:Int):List UInt8:=
 if o=1 then [98,121,116,101] else if o=2 then [115,112,108,105,116] else if o=3 then [106,117,109,112] else if o=4 then [98,101,103,105,110] else if o=5 then [101,110,100] else if o=6 then [111,112,101,110] else if o=7 then [99,108,111,115,101] else if o=8 then [98,97,99,107] else if o=9 then [122,101,114,111] else if o=10 then [116,117,114,110] else if o=11 then [109,97,116,99,104] else []
def shT(o:Int):Int:=if o=1 then 65 else if o=2 then 6 else if o=3 then 2 else if o=4 then 64 else if o=5 then 64 else if o=6 then 72 else if o=7 then 72 else if o=8 then 72 else if o=9 then 80 else if o=10 then 54 else 0
def trs:List Int:=[65,6,2,64,72,80,54,0]
theorem aO(o:Int)(w:World):Calls Tryz.prog 33 #[.int .i64 o] w fun e w'=>e=.returned (.tuple #[.string (txt (shW o)),.int .i64 (shT o)])/\w'=w:=by
 by_cases h1:o=1
 ·subst h1;go_enter Tryz.func33,Tryz.ntmps33;go_wp2;go_ret2;exact⟨rfl,rfl⟩
 by_cases h2:o=2
 ·subst h2;go_enter Tryz.func33,Tryz.ntmps33;go_wp2;go_ret2;exact⟨rfl,rfl⟩
 by_cases h3:o=3
 ·subst h3;go_enter Tryz.func33,Tryz.ntmps33;go_wp2;go_ret2;exact⟨rfl,rfl⟩
 by_cases h4:o=4
 ·subst h4;go_enter Tryz.func33,Tryz.ntmps33;go_wp2;go_ret2;exact⟨rfl,rfl⟩
 by_cases h5:o=5
 ·subst h5;go_enter Tryz.func33,Tryz.ntmps33;go_wp2;go_ret2;exact⟨rfl,rfl⟩
 by_cases h6:o=6
 ·subst h6;go_enter Tryz.func33,Tryz.ntmps33;go_wp2;go_ret2;exact⟨rfl,rfl⟩
 by_cases h7:o=7
 ·subst h7;go_enter Tryz.func33,Tryz.ntmps33;go_wp2;go_ret2;exact⟨rfl,rfl⟩
 by_cases h8:o=8
 ·subst h8;go_enter Tryz.func33,Tryz.ntmps33;go_wp2;go_ret2;exact⟨rfl,rfl⟩
 by_cases h9:o=9
 ·subst h9;go_enter Tryz.func33,Tryz.ntmps33;go_wp2;go_ret2;exact⟨rfl,rfl⟩
 by_cases h10:o=10
 ·subst h10;go_enter Tryz.func33,Tryz.ntmps33;go_wp2;go_ret2;exact⟨rfl,rfl⟩
 by_cases h11:o=11
 ·subst h11;go_enter Tryz.func33,Tryz.ntmps33;go_wp2;go_ret2;exact⟨rfl,rfl⟩
 have e1:shW o=[]:=by unfold shW;simp [h1,h2,h3,h4,h5,h6,h7,h8,h9,h10,h11]
 have e2:shT o=0:=by unfold shT;simp [h1,h2,h3,h4,h5,h6,h7,h8,h9,h10]
 rw [e1,e2]
 clear e1 e2
 go_enter Tryz.func33,Tryz.ntmps33
 go_wp2
 go_ret2
 exact⟨rfl,rfl⟩
def hsT(t m:Int):Bool:=bits .and .i64 t m != 0
theorem aU(t m:Int)(w:World):Calls Tryz.prog 34 #[.int .i64 t,.int .i64 m] w fun e w'=>e=.returned (.bool (hsT t m))/\w'=w:=by
 go_enter Tryz.func34,Tryz.ntmps34
 go_wp2
 go_ret
 exact⟨rfl,rfl⟩
def blw(n m:Int):Bool:=decide (0<=n)&&decide (n<m)
theorem bT(n m:Int)(w:World):Calls Tryz.prog 23 #[.int .i64 n,.int .i64 m] w fun e w'=>e=.returned (.bool (blw n m))/\w'=w:=by
 unfold blw
 by_cases h:0<=n
 ·rw [p9 h,Bool.true_and]
  go_enter Tryz.func23,Tryz.ntmps23
  go_wp2
  go_ret
  exact⟨rfl,rfl⟩
 ·rw [j6 h,Bool.false_and]
  go_enter Tryz.func23,Tryz.ntmps23
  go_wp2
  go_ret
  exact⟨rfl,rfl⟩
def rbd(a b:Int):Bool:=blw a 256&&(b==-1 ||(decide (a<=b)&&decide (b<=255)))
theorem cT(a b:Int)(w:World):Calls Tryz.prog 47 #[.int .i64 a,.int .i64 b] w fun e w'=>e=.returned (.bool (rbd a b))/\w'=w:=by
 unfold rbd
 have HB:=aD (bT a 256 w)
 obtain⟨r,hr⟩:∃ r,blw a 256=r:=⟨_,rfl⟩
 rw [hr] at HB ⊢
 clear hr
 cases r with
 | false=>
  go_enter Tryz.func47,Tryz.ntmps47
  go_wp2_with (go_at_call 23;(with_reducible refine(HB.o).mono ?_);rintro e w5 ⟨rfl,rfl⟩)
  go_ret
  exact⟨rfl,rfl⟩
 | true=>
  by_cases h1:b=-1
  ·subst h1
   go_enter Tryz.func47,Tryz.ntmps47
   go_wp2_with (go_at_call 23;(with_reducible refine(HB.o).mono ?_);rintro e w5 ⟨rfl,rfl⟩)
   go_ret
   exact⟨rfl,rfl⟩
  ·rw [Bool.true_and]
   by_cases h2:a<=b
   ·rw [p9 h2,Bool.true_and]
    go_enter Tryz.func47,Tryz.ntmps47
    go_wp2_with (go_at_call 23;(with_reducible refine(HB.o).mono ?_);rintro e w5 ⟨rfl,rfl⟩)
    go_ret
    first | exact⟨rfl,rfl⟩ | exact⟨by simp,rfl⟩
   ·rw [j6 h2,Bool.false_and]
    go_enter Tryz.func47,Tryz.ntmps47
    go_wp2_with (go_at_call 23;(with_reducible refine(HB.o).mono ?_);rintro e w5 ⟨rfl,rfl⟩)
    go_ret
    first | exact⟨rfl,rfl⟩ | exact⟨by simp,rfl⟩
end
section
attribute [local go_sem] Oper.semAt_some cD
def usI(t:Int)(i:Ins):Ins:=⟨i.op,if hsT t 2 then i.x else 0,if hsT t 4 then i.y else 0,if hsT t 24 then i.n else 0,if hsT t 32 then i.mn else 0,if hsT t 32 then i.mx else 0,if hsT t 1 then i.s else 0#256⟩
def UsP(t:Int)(i:Ins)(w:World)(e:Ending)(w':World):Prop:=∃ j,j=usI t i/\e=.returned (.agg #[.int .i64 j.op,.int .i64 j.x,.int .i64 j.y,.int .i64 j.n,.int .i64 j.mn,.int .i64 j.mx,.int .u64 (aB j.s 0),.int .u64 (aB j.s 1),.int .u64 (aB j.s 2),.int .u64 (aB j.s 3)])/\wBl w w'
theorem yQ(i:Ins)(w:World):Calls Tryz.prog 46 #[.int .i64 65,.agg #[.int .i64 i.op,.int .i64 i.x,.int .i64 i.y,.int .i64 i.n,.int .i64 i.mn,.int .i64 i.mx,.int .u64 (aB i.s 0),.int .u64 (aB i.s 1),.int .u64 (aB i.s 2),.int .u64 (aB i.s 3)]] w (UsP 65 i w):=by
 have q1:hsT 65 1=true:=by decide
 have q2:hsT 65 2=false:=by decide
 have q3:hsT 65 4=false:=by decide
 have q4:hsT 65 24=false:=by decide
 have q5:hsT 65 32=false:=by decide
 have ej:usI 65 i=⟨i.op,0,0,0,0,0,i.s⟩:=by simp [usI,q1,q2,q3,q4,q5]
 go_enter Tryz.func46,Tryz.ntmps46
 go_wp2_with (go_at_call 34;(with_reducible refine(aU _ _ _).mono ?_);rintro e w5 ⟨rfl,rfl⟩)
 all_goals refine bodyPost_ret (v:=.agg #[.int .i64 i.op,.int .i64 0,.int .i64 0,.int .i64 0,.int .i64 0,.int .i64 0,.int .u64 (aB i.s 0),.int .u64 (aB i.s 1),.int .u64 (aB i.s 2),.int .u64 (aB i.s 3)]) (by simp [results,Tryz.results46,go_sem]) rfl ?_
 all_goals refine⟨_,ej.symm,by simp,?_⟩
 all_goals repeat' (first | exact Below.refl _ _ | refine Below.drew ?_ | refine Below.alloc ?_ (by simp <;> omega) _)
theorem aD7(i:Ins)(w:World):Calls Tryz.prog 46 #[.int .i64 6,.agg #[.int .i64 i.op,.int .i64 i.x,.int .i64 i.y,.int .i64 i.n,.int .i64 i.mn,.int .i64 i.mx,.int .u64 (aB i.s 0),.int .u64 (aB i.s 1),.int .u64 (aB i.s 2),.int .u64 (aB i.s 3)]] w (UsP 6 i w):=by
 have q1:hsT 6 1=false:=by decide
 have q2:hsT 6 2=true:=by decide
 have q3:hsT 6 4=true:=by decide
 have q4:hsT 6 24=false:=by decide
 have q5:hsT 6 32=false:=by decide
 have ej:usI 6 i=⟨i.op,i.x,i.y,0,0,0,0#256⟩:=by simp [usI,q1,q2,q3,q4,q5]
 go_enter Tryz.func46,Tryz.ntmps46
 go_wp2_with (go_at_call 34;(with_reducible refine(aU _ _ _).mono ?_);rintro e w5 ⟨rfl,rfl⟩)
 all_goals refine bodyPost_ret (v:=.agg #[.int .i64 i.op,.int .i64 i.x,.int .i64 i.y,.int .i64 0,.int .i64 0,.int .i64 0,.int .u64 0,.int .u64 0,.int .u64 0,.int .u64 0]) (by simp [results,Tryz.results46,go_sem]) rfl ?_
 all_goals refine⟨_,ej.symm,by simp [bA],?_⟩
 all_goals repeat' (first | exact Below.refl _ _ | refine Below.drew ?_ | refine Below.alloc ?_ (by simp <;> omega) _)
theorem aD8(i:Ins)(w:World):Calls Tryz.prog 46 #[.int .i64 2,.agg #[.int .i64 i.op,.int .i64 i.x,.int .i64 i.y,.int .i64 i.n,.int .i64 i.mn,.int .i64 i.mx,.int .u64 (aB i.s 0),.int .u64 (aB i.s 1),.int .u64 (aB i.s 2),.int .u64 (aB i.s 3)]] w (UsP 2 i w):=by
 have q1:hsT 2 1=false:=by decide
 have q2:hsT 2 2=true:=by decide
 have q3:hsT 2 4=false:=by decide
 have q4:hsT 2 24=false:=by decide
 have q5:hsT 2 32=false:=by decide
 have ej:usI 2 i=⟨i.op,i.x,0,0,0,0,0#256⟩:=by simp [usI,q1,q2,q3,q4,q5]
 go_enter Tryz.func46,Tryz.ntmps46
 go_wp2_with (go_at_call 34;(with_reducible refine(aU _ _ _).mono ?_);rintro e w5 ⟨rfl,rfl⟩)
 all_goals refine bodyPost_ret (v:=.agg #[.int .i64 i.op,.int .i64 i.x,.int .i64 0,.int .i64 0,.int .i64 0,.int .i64 0,.int .u64 0,.int .u64 0,.int .u64 0,.int .u64 0]) (by simp [results,Tryz.results46,go_sem]) rfl ?_
 all_goals refine⟨_,ej.symm,by simp [bA],?_⟩
 all_goals repeat' (first | exact Below.refl _ _ | refine Below.drew ?_ | refine Below.alloc ?_ (by simp <;> omega) _)
theorem yR(i:Ins)(w:World):Calls Tryz.prog 46 #[.int .i64 64,.agg #[.int .i64 i.op,.int .i64 i.x,.int .i64 i.y,.int .i64 i.n,.int .i64 i.mn,.int .i64 i.mx,.int .u64 (aB i.s 0),.int .u64 (aB i.s 1),.int .u64 (aB i.s 2),.int .u64 (aB i.s 3)]] w (UsP 64 i w):=by
 have q1:hsT 64 1=false:=by decide
 have q2:hsT 64 2=false:=by decide
 have q3:hsT 64 4=false:=by decide
 have q4:hsT 64 24=false:=by decide
 have q5:hsT 64 32=false:=by decide
 have ej:usI 64 i=⟨i.op,0,0,0,0,0,0#256⟩:=by simp [usI,q1,q2,q3,q4,q5]
 go_enter Tryz.func46,Tryz.ntmps46
 go_wp2_with (go_at_call 34;(with_reducible refine(aU _ _ _).mono ?_);rintro e w5 ⟨rfl,rfl⟩)
 all_goals refine bodyPost_ret (v:=.agg #[.int .i64 i.op,.int .i64 0,.int .i64 0,.int .i64 0,.int .i64 0,.int .i64 0,.int .u64 0,.int .u64 0,.int .u64 0,.int .u64 0]) (by simp [results,Tryz.results46,go_sem]) rfl ?_
 all_goals refine⟨_,ej.symm,by simp [bA],?_⟩
 all_goals repeat' (first | exact Below.refl _ _ | refine Below.drew ?_ | refine Below.alloc ?_ (by simp <;> omega) _)
theorem yP(i:Ins)(w:World):Calls Tryz.prog 46 #[.int .i64 72,.agg #[.int .i64 i.op,.int .i64 i.x,.int .i64 i.y,.int .i64 i.n,.int .i64 i.mn,.int .i64 i.mx,.int .u64 (aB i.s 0),.int .u64 (aB i.s 1),.int .u64 (aB i.s 2),.int .u64 (aB i.s 3)]] w (UsP 72 i w):=by
 have q1:hsT 72 1=false:=by decide
 have q2:hsT 72 2=false:=by decide
 have q3:hsT 72 4=false:=by decide
 have q4:hsT 72 24=true:=by decide
 have q5:hsT 72 32=false:=by decide
 have ej:usI 72 i=⟨i.op,0,0,i.n,0,0,0#256⟩:=by simp [usI,q1,q2,q3,q4,q5]
 go_enter Tryz.func46,Tryz.ntmps46
 go_wp2_with (go_at_call 34;(with_reducible refine(aU _ _ _).mono ?_);rintro e w5 ⟨rfl,rfl⟩)
 all_goals refine bodyPost_ret (v:=.agg #[.int .i64 i.op,.int .i64 0,.int .i64 0,.int .i64 i.n,.int .i64 0,.int .i64 0,.int .u64 0,.int .u64 0,.int .u64 0,.int .u64 0]) (by simp [results,Tryz.results46,go_sem]) rfl ?_
 all_goals refine⟨_,ej.symm,by simp [bA],?_⟩
 all_goals repeat' (first | exact Below.refl _ _ | refine Below.drew ?_ | refine Below.alloc ?_ (by simp <;> omega) _)
theorem yO(i:Ins)(w:World):Calls Tryz.prog 46 #[.int .i64 80,.agg #[.int .i64 i.op,.int .i64 i.x,.int .i64 i.y,.int .i64 i.n,.int .i64 i.mn,.int .i64 i.mx,.int .u64 (aB i.s 0),.int .u64 (aB i.s 1),.int .u64 (aB i.s 2),.int .u64 (aB i.s 3)]] w (UsP 80 i w):=by
 have q1:hsT 80 1=false:=by decide
 have q2:hsT 80 2=false:=by decide
 have q3:hsT 80 4=false:=by decide
 have q4:hsT 80 24=true:=by decide
 have q5:hsT 80 32=false:=by decide
 have ej:usI 80 i=⟨i.op,0,0,i.n,0,0,0#256⟩:=by simp [usI,q1,q2,q3,q4,q5]
 go_enter Tryz.func46,Tryz.ntmps46
 go_wp2_with (go_at_call 34;(with_reducible refine(aU _ _ _).mono ?_);rintro e w5 ⟨rfl,rfl⟩)
 all_goals refine bodyPost_ret (v:=.agg #[.int .i64 i.op,.int .i64 0,.int .i64 0,.int .i64 i.n,.int .i64 0,.int .i64 0,.int .u64 0,.int .u64 0,.int .u64 0,.int .u64 0]) (by simp [results,Tryz.results46,go_sem]) rfl ?_
 all_goals refine⟨_,ej.symm,by simp [bA],?_⟩
 all_goals repeat' (first | exact Below.refl _ _ | refine Below.drew ?_ | refine Below.alloc ?_ (by simp <;> omega) _)
theorem yS(i:Ins)(w:World):Calls Tryz.prog 46 #[.int .i64 54,.agg #[.int .i64 i.op,.int .i64 i.x,.int .i64 i.y,.int .i64 i.n,.int .i64 i.mn,.int .i64 i.mx,.int .u64 (aB i.s 0),.int .u64 (aB i.s 1),.int .u64 (aB i.s 2),.int .u64 (aB i.s 3)]] w (UsP 54 i w):=by
 have q1:hsT 54 1=false:=by decide
 have q2:hsT 54 2=true:=by decide
 have q3:hsT 54 4=true:=by decide
 have q4:hsT 54 24=true:=by decide
 have q5:hsT 54 32=true:=by decide
 have ej:usI 54 i=⟨i.op,i.x,i.y,i.n,i.mn,i.mx,0#256⟩:=by simp [usI,q1,q2,q3,q4,q5]
 go_enter Tryz.func46,Tryz.ntmps46
 go_wp2_with (go_at_call 34;(with_reducible refine(aU _ _ _).mono ?_);rintro e w5 ⟨rfl,rfl⟩)
 go_region
 all_goals go_wp2
 all_goals refine bodyPost_ret (v:=.agg #[.int .i64 i.op,.int .i64 i.x,.int .i64 i.y,.int .i64 i.n,.int .i64 i.mn,.int .i64 i.mx,.int .u64 0,.int .u64 0,.int .u64 0,.int .u64 0]) (by simp [results,Tryz.results46,go_sem]) rfl ?_
 all_goals refine⟨_,ej.symm,by simp [bA],?_⟩
 all_goals repeat' (first | exact Below.refl _ _ | refine Below.drew ?_ | refine Below.alloc ?_ (by simp <;> omega) _)
theorem aD9(i:Ins)(w:World):Calls Tryz.prog 46 #[.int .i64 0,.agg #[.int .i64 i.op,.int .i64 i.x,.int .i64 i.y,.int .i64 i.n,.int .i64 i.mn,.int .i64 i.mx,.int .u64 (aB i.s 0),.int .u64 (aB i.s 1),.int .u64 (aB i.s 2),.int .u64 (aB i.s 3)]] w (UsP 0 i w):=by
 have q1:hsT 0 1=false:=by decide
 have q2:hsT 0 2=false:=by decide
 have q3:hsT 0 4=false:=by decide
 have q4:hsT 0 24=false:=by decide
 have q5:hsT 0 32=false:=by decide
 have ej:usI 0 i=⟨i.op,0,0,0,0,0,0#256⟩:=by simp [usI,q1,q2,q3,q4,q5]
 go_enter Tryz.func46,Tryz.ntmps46
 go_wp2_with (go_at_call 34;(with_reducible refine(aU _ _ _).mono ?_);rintro e w5 ⟨rfl,rfl⟩)
 all_goals refine bodyPost_ret (v:=.agg #[.int .i64 i.op,.int .i64 0,.int .i64 0,.int .i64 0,.int .i64 0,.int .i64 0,.int .u64 0,.int .u64 0,.int .u64 0,.int .u64 0]) (by simp [results,Tryz.results46,go_sem]) rfl ?_
 all_goals refine⟨_,ej.symm,by simp [bA],?_⟩
 all_goals repeat' (first | exact Below.refl _ _ | refine Below.drew ?_ | refine Below.alloc ?_ (by simp <;> omega) _)
theorem aD6{t:Int}(ht:t∈trs)(i:Ins)(w:World):Calls Tryz.prog 46 #[.int .i64 t,.agg #[.int .i64 i.op,.int .i64 i.x,.int .i64 i.y,.int .i64 i.n,.int .i64 i.mn,.int .i64 i.mx,.int .u64 (aB i.s 0),.int .u64 (aB i.s 1),.int .u64 (aB i.s 2),.int .u64 (aB i.s 3)]] w (UsP t i w):=by
 simp [trs] at ht
 rcases ht with rfl | rfl | rfl | rfl | rfl | rfl | rfl | rfl
 ·exact yQ i w
 ·exact aD7 i w
 ·exact aD8 i w
 ·exact yR i w
 ·exact yP i w
 ·exact yO i w
 ·exact yS i w
 ·exact aD9 i w
end
end Go.Proofs.YtliflleaeimngaaGreatDoor
