/-
  Parts of the proof.
-/
import Derived.Test.YtliflleaeimngaaGreatDoorRightsProofA0
import Derived.WalkKit
import Derived.Test.YtliflleaeimngaaGreatDoorProg
import Derived.WalkSpells
import Derived.WalkLawsBesides
set_option linter.unusedSimpArgs false
set_option maxRecDepth 100000
set_option maxHeartbeats 8000000
namespace Go.Proofs.YtliflleaeimngaaGreatDoor
open Go Go.RowKit
section
open Go
def eJ(P:Program)(c:Code)(Q:Exit->Act->World->Prop):Nat->Act->World->Prop
 | 0,_,_=>False
 | n+1,a,w=>c.wp P (Exit.then (eJ P c Q n) Q) a w
theorem aM{P:Program}{c:Code}{Q:Exit->Act->World->Prop}{n:Nat}{a:Act}{w:World}
  (h:c.wp P (Exit.then (eJ P c Q n) Q) a w):eJ P c Q (n+1) a w:=h
theorem lH{p:Nat->Prop}:∀ n,p n->∃ m,p m/\∀ k,p k->m<=k:=by
 intro n
 induction n using Nat.strongRecOn with
 | _ n ih=>
  intro h
  by_cases g:∃ k,k<n/\p k
  ·obtain⟨k,hk,hp⟩:=g
   exact ih k hk hp
  ·exact⟨n,h,fun k hk=>Nat.le_of_not_lt fun hlt=>g ⟨k,hlt,hk⟩⟩
open Classical in
noncomputable def eC (p:Nat->Prop):Nat:=if h:∃ m,p m/\∀ k,p k->m<=k then Classical.choose h else 0
theorem eT{p:Nat->Prop}{n:Nat}(h:p n):p (eC p)/\∀ k,p k->eC p<=k:=by
 have g:=lH n h
 unfold eC
 rw [dif_pos g]
 exact Classical.choose_spec g
theorem bI{P:Program}{c:Code}{Q:Exit->Act->World->Prop}(n:Nat){a:Act}{w:World}
  (h:eJ P c Q n a w):(Code.loop c).wp P Q a w:=by
 refine wp_loop (fun a w=>∃ n,eJ P c Q n a w) (fun a w=>eC fun n=>eJ P c Q n a w) ⟨n,h⟩ ?_
 rintro a w ⟨n,hn⟩
 obtain⟨hs,-⟩:=eT (p:=fun n=>eJ P c Q n a w) hn
 generalize eC (fun n=>eJ P c Q n a w)=m at hs
 cases m with
 | zero=>exact hs.elim
 | succ m=>
  refine wp_mono (show c.wp P (Exit.then (eJ P c Q m) Q) a w from hs) ?_
  intro e a' w' he
  cases e with
  | normal=>exact⟨⟨m,he⟩,Nat.lt_succ_of_le ((eT (p:=fun n=>eJ P c Q n a' w') (n:=m) he).2 m he)⟩
  | exit id=>exact he
  | goto l=>exact he
  | ret=>exact he
  | panic ch=>exact he
  | outgrown=>exact he
end
abbrev aQ:=BitVec 256
def aB(s:aQ)(i:Nat):Int:=((s.extractLsb' (64*i) 64).toNat:Int)
theorem eH(s:aQ)(i:Nat):0<=aB s i/\aB s i<18446744073709551616:=by
 unfold aB
 have:=(s.extractLsb' (64*i) 64).isLt
 omega
theorem cN(s:aQ)(i:Nat):BitVec.ofInt 64 (aB s i)=s.extractLsb' (64*i) 64:=by
 unfold aB
 rw [BitVec.ofInt_natCast,BitVec.ofNat_toNat,BitVec.setWidth_eq]
theorem qV{s t:aQ}(h0:aB s 0=aB t 0)(h1:aB s 1=aB t 1)(h2:aB s 2=aB t 2)(h3:aB s 3=aB t 3):s=t:=by
 have g:∀ i,aB s i=aB t i->s.extractLsb' (64*i) 64=t.extractLsb' (64*i) 64:=fun i h=>by
  unfold aB at h;exact BitVec.eq_of_toNat_eq (by omega)
 have k:∀ i,i<4->s.extractLsb' (64*i) 64=t.extractLsb' (64*i) 64:=fun i hi=>by
  match i,hi with
  | 0,_=>exact g 0 h0
  | 1,_=>exact g 1 h1
  | 2,_=>exact g 2 h2
  | 3,_=>exact g 3 h3
 refine BitVec.eq_of_getLsbD_eq fun n hn=>?_
 have e:=congrArg (fun z=>z.getLsbD (n%64)) (k (n/64) (by omega))
 simp only [BitVec.getLsbD_extractLsb'] at e
 have hl:n%64<64:=Nat.mod_lt _ (by decide)
 have hs:64*(n/64)+n%64=n:=Nat.div_add_mod n 64
 simpa [hl,hs] using e
theorem iA(s:aQ)(i:Nat)(x:BitVec 64)(h:∀ n,n<64->s.getLsbD (64*i+n)=x.getLsbD n):aB s i=(x.toNat:Int):=by
 have e:s.extractLsb' (64*i) 64=x:=BitVec.eq_of_getLsbD_eq fun n hn=>by
  rw [BitVec.getLsbD_extractLsb'];simp [hn,h n hn]
 unfold aB;rw [e]
theorem vU(x0 z1_x1 z1_x2 z1_x3:Int)(a0:0<=x0)(b0:x0<18446744073709551616)(a1:0<=z1_x1)(z1_b1:z1_x1<18446744073709551616)
  (a2:0<=z1_x2) (z1_b2:z1_x2<18446744073709551616) (a3:0<=z1_x3) (z1_b3:z1_x3<18446744073709551616) :
  ∃ s:aQ,x0=aB s 0/\z1_x1=aB s 1/\z1_x2=aB s 2/\z1_x3=aB s 3:=by
 obtain⟨y0,rfl⟩:=p7 a0
 obtain⟨y1,rfl⟩:=p7 a1
 obtain⟨y2,rfl⟩:=p7 a2
 obtain⟨y3,rfl⟩:=p7 a3
 obtain⟨N,hN⟩:∃ N:Nat,N=y0+18446744073709551616*(y1+18446744073709551616*(y2+18446744073709551616*y3)):=⟨_,rfl⟩
 have hlt:N<2 ^ 256:=by
  have:(2:Nat) ^ 256=18446744073709551616*(18446744073709551616*(18446744073709551616*18446744073709551616)):=by decide
  rw [this];omega
 have w:∀ i,aB (BitVec.ofNat 256 N) i=((N/2 ^ (64*i)%18446744073709551616:Nat):Int):=fun i=>by
  unfold aB
  rw [BitVec.extractLsb'_toNat,BitVec.toNat_ofNat,Nat.mod_eq_of_lt hlt,Nat.shiftRight_eq_div_pow]
 have d1:N/18446744073709551616=y1+18446744073709551616*(y2+18446744073709551616*y3):=by omega
 have d2:N/18446744073709551616/18446744073709551616=y2+18446744073709551616*y3:=by omega
 have d3:N/18446744073709551616/18446744073709551616/18446744073709551616=y3:=by omega
 refine⟨BitVec.ofNat 256 N,?_,?_,?_,?_⟩
 ·rw [w 0];simp;omega
 ·rw [w 1,show (2:Nat) ^ (64*1)=18446744073709551616 by decide,d1];omega
 ·rw [w 2,show (2:Nat) ^ (64*2)=18446744073709551616*18446744073709551616 by decide,<- Nat.div_div_eq_div_mul,d2];omega
 ·rw [w 3,show (2:Nat) ^ (64*3)=18446744073709551616*18446744073709551616*18446744073709551616 by decide,<- Nat.div_div_eq_div_mul,<- Nat.div_div_eq_div_mul,d3];omega
def dU(a b:aQ):aQ:=a ||| b
def kA(a b:aQ):aQ:=a &&& b
def aW(a b:aQ):aQ:=a &&& ~~~b
def eM(a:aQ):aQ := ~~~a
def iB(n m:Int):Nat:=(min (max n 0) m).toNat
def aV(n:Int):aQ:=BitVec.ofNat 256 (2 ^ iB n 256-1)
theorem qZ(a b:aQ)(i:Nat):(dU a b).extractLsb' (64*i) 64=a.extractLsb' (64*i) 64 ||| b.extractLsb' (64*i) 64:=by
 unfold dU;refine BitVec.eq_of_getLsbD_eq fun n hn=>?_;simp [hn]
theorem mY(a b:aQ)(i:Nat):(kA a b).extractLsb' (64*i) 64=a.extractLsb' (64*i) 64 &&& b.extractLsb' (64*i) 64:=by
 unfold kA;refine BitVec.eq_of_getLsbD_eq fun n hn=>?_;simp [hn]
theorem lJ(a b:aQ)(i:Nat)(hi:i<4):(aW a b).extractLsb' (64*i) 64=a.extractLsb' (64*i) 64 &&& ~~~b.extractLsb' (64*i) 64:=by
 unfold aW;refine BitVec.eq_of_getLsbD_eq fun n hn=>?_;have h2:64*i+n<256:=by omega
 simp [hn,h2]
theorem mX(a:aQ)(i:Nat)(hi:i<4):(eM a).extractLsb' (64*i) 64= ~~~a.extractLsb' (64*i) 64:=by
 unfold eM;refine BitVec.eq_of_getLsbD_eq fun n hn=>?_;have h2:64*i+n<256:=by omega
 simp [hn,h2]
theorem dE(m:Int)(n:Nat):(aV m).getLsbD n=decide (n<256/\(n:Int)<m):=by
 unfold aV iB
 rw [BitVec.getLsbD_ofNat,Nat.testBit_two_pow_sub_one,Bool.eq_iff_iff];simp;omega
theorem iV(s:aQ)(i:Nat)(h:∀ n,n<64->s.getLsbD (64*i+n)=false):0=aB s i:=by
 rw [iA s i 0#64 (fun n hn=>by rw [h n hn];simp)];rfl
theorem dN(m:Int)(i:Nat)(h:m<=64*i):0=aB (aV m) i:=
 iV _ _ fun n hn=>by rw [dE];simp;omega
theorem jB(m:Int)(i k:Nat)(hi:i<4)(h0:m=64*i+k)(h1:k<=64):(2:Int) ^ k-1=aB (aV m) i:=by
 have hle:2 ^ k<=2 ^ 64:=Nat.pow_le_pow_right (by decide) h1
 have hpos:0<2 ^ k:=Nat.pow_pos (by decide)
 rw [iA _ i (BitVec.ofNat 64 (2 ^ k-1))]
 ·rw [BitVec.toNat_ofNat,Nat.mod_eq_of_lt (by omega),Int.ofNat_sub hpos];simp
 ·intro n hn
  rw [dE,BitVec.getLsbD_ofNat,Nat.testBit_two_pow_sub_one,Bool.eq_iff_iff];simp;omega
theorem jC(m:Int)(i:Nat)(hi:i<4)(h0:64*i+64<=m):18446744073709551615=aB (aV m) i:=by
 rw [iA _ i (BitVec.allOnes 64)]
 ·rfl
 ·intro n hn
  rw [dE,BitVec.getLsbD_allOnes,Bool.eq_iff_iff];simp;omega
section
open Go.RowKit
theorem hQ(x0 z1_x1 z1_x2 z1_x3:Value)(w:World):(Instr.index 52 (.agg #[x0,z1_x1,z1_x2,z1_x3]) (.int .i64 0)).run Tryz.prog w=.ok x0 w:=by kernel_rfl
theorem hH(x0 z1_x1 z1_x2 z1_x3:Value)(w:World):(Instr.index 52 (.agg #[x0,z1_x1,z1_x2,z1_x3]) (.int .i64 1)).run Tryz.prog w=.ok z1_x1 w:=by kernel_rfl
theorem gZ(x0 z1_x1 z1_x2 z1_x3:Value)(w:World):(Instr.index 52 (.agg #[x0,z1_x1,z1_x2,z1_x3]) (.int .i64 2)).run Tryz.prog w=.ok z1_x2 w:=by kernel_rfl
theorem gY(x0 z1_x1 z1_x2 z1_x3:Value)(w:World):(Instr.index 52 (.agg #[x0,z1_x1,z1_x2,z1_x3]) (.int .i64 3)).run Tryz.prog w=.ok z1_x3 w:=by kernel_rfl
theorem dL(r:BitVec 64):IntKind.u64.wrap (r.toNat:Int)=(r.toNat:Int):=by
 have:=r.isLt
 simp [IntKind.wrap,IntKind.bits,IntKind.signed]
 omega
theorem mZ(a b:aQ)(i:Nat):bits .or .u64 (aB a i) (aB b i)=aB (dU a b) i:=by
 show IntKind.u64.wrap ((BitVec.ofInt 64 (aB a i) ||| BitVec.ofInt 64 (aB b i)).toNat:Int)=_
 rw [cN,cN,dL,<- qZ];rfl
theorem lN(a b:aQ)(i:Nat):bits .and .u64 (aB a i) (aB b i)=aB (kA a b) i:=by
 show IntKind.u64.wrap ((BitVec.ofInt 64 (aB a i) &&& BitVec.ofInt 64 (aB b i)).toNat:Int)=_
 rw [cN,cN,dL,<- mY];rfl
theorem cM(a b:aQ)(i:Nat)(hi:i<4):bits .andNot .u64 (aB a i) (aB b i)=aB (aW a b) i:=by
 show IntKind.u64.wrap ((BitVec.ofInt 64 (aB a i) &&& ~~~BitVec.ofInt 64 (aB b i)).toNat:Int)=_
 rw [cN,cN,dL,<- lJ _ _ _ hi];rfl
theorem dD(a:aQ)(i:Nat)(hi:i<4):bits .xor .u64 IntKind.u64.max (aB a i)=aB (eM a) i:=by
 show IntKind.u64.wrap ((BitVec.ofInt 64 IntKind.u64.max ^^^ BitVec.ofInt 64 (aB a i)).toNat:Int)=_
 have e:BitVec.ofInt 64 IntKind.u64.max=BitVec.allOnes 64:=by decide
 rw [e,cN,dL,BitVec.allOnes_xor,<- mX _ _ hi];rfl
theorem gW(a b:aQ):bits .andNot .u64 (aB a 0) (aB b 0)=aB (aW a b) 0:=cM a b 0 (by decide)
theorem gV(a b:aQ):bits .andNot .u64 (aB a 1) (aB b 1)=aB (aW a b) 1:=cM a b 1 (by decide)
theorem gU(a b:aQ):bits .andNot .u64 (aB a 2) (aB b 2)=aB (aW a b) 2:=cM a b 2 (by decide)
theorem gT(a b:aQ):bits .andNot .u64 (aB a 3) (aB b 3)=aB (aW a b) 3:=cM a b 3 (by decide)
theorem kI(a:aQ):bits .xor .u64 IntKind.u64.max (aB a 0)=aB (eM a) 0:=dD a 0 (by decide)
theorem kH(a:aQ):bits .xor .u64 IntKind.u64.max (aB a 1)=aB (eM a) 1:=dD a 1 (by decide)
theorem kG(a:aQ):bits .xor .u64 IntKind.u64.max (aB a 2)=aB (eM a) 2:=dD a 2 (by decide)
theorem kF(a:aQ):bits .xor .u64 IntKind.u64.max (aB a 3)=aB (eM a) 3:=dD a 3 (by decide)
theorem dM:IntKind.u64.signed=false:=rfl
end
theorem bK:Tryz.prog.eqGuardType Tryz.prog.depth 52=false:=by kernel_rfl
theorem iY(x0 z1_x1 z1_x2 z1_x3 y0 y1 y2 y3:Int)(w:World) :
  (Op.equalIn 10000 52 (.agg #[.int .u64 x0,.int .u64 z1_x1,.int .u64 z1_x2,.int .u64 z1_x3]) (.agg #[.int .u64 y0,.int .u64 y1,.int .u64 y2,.int .u64 y3])).run Tryz.prog w
   = .ok (x0==y0&&z1_x1==y1&&z1_x2==y2&&z1_x3==y3) w:=by
 have u22:=Tryz.underlying50
 have a22:=Tryz.isAgg50
 have z22:=Tryz.sizeOf50
 have hu:Tryz.prog.underlying 52=some (.array 4 50):=by kernel_rfl
 rw [show (10000:Nat)=9999+1 from rfl,Op.equalIn]
 simp only [Sem.run_bind,run_underlying hu,Result.andThen_ok]
 simp only [Std.Legacy.Range.forIn_eq_forIn_range',Std.Legacy.Range.size,Nat.sub_zero,Nat.add_sub_cancel,Nat.div_one,List.range'_succ,List.range'_zero,List.forIn_cons,List.forIn_nil]
 go_simp
 by_cases h0:x0=y0 <;> by_cases h1:z1_x1=y1 <;> by_cases h2:z1_x2=y2 <;> by_cases h3:z1_x3=y3 <;> simp [h0,h1,h2,h3]
theorem jG(a b:aQ):(aB a 0==aB b 0&&aB a 1==aB b 1&&aB a 2==aB b 2&&aB a 3==aB b 3)=decide (a=b):=by
 by_cases h:a=b
 ·subst h;simp
 ·rw [j6 h,Bool.eq_false_iff]
  intro g
  simp at g
  exact h (qV g.1.1.1 g.1.1.2 g.1.2 g.2)
theorem lL(a b:aQ)(w:World):(Op.equalIn 10000 52 (.agg #[.int .u64 (aB (a) 0),.int .u64 (aB (a) 1),.int .u64 (aB (a) 2),.int .u64 (aB (a) 3)]) (.agg #[.int .u64 (aB (b) 0),.int .u64 (aB (b) 1),.int .u64 (aB (b) 2),.int .u64 (aB (b) 3)])).run Tryz.prog w=.ok (decide (a=b)) w:=by
 rw [iY,jG]
theorem bA(i:Nat):aB (0#256) i=0:=by simp [aB]
theorem bF(a:aQ)(w:World):(Op.equalIn 10000 52 (.agg #[.int .u64 (aB (a) 0),.int .u64 (aB (a) 1),.int .u64 (aB (a) 2),.int .u64 (aB (a) 3)]) (.agg #[.int .u64 0,.int .u64 0,.int .u64 0,.int .u64 0])).run Tryz.prog w=.ok (decide (a=0#256)) w:=by
 have:=lL a (0#256) w
 rwa [bA,bA,bA,bA] at this
section
open Go.RowKit
attribute [local go_sem] hQ hH gZ gY mZ lN gW gV gU gT kI kH kG kF dM
theorem qX(a b:aQ)(w:World) :
  Calls Tryz.prog 99 #[.agg #[.int .u64 (aB (a) 0),.int .u64 (aB (a) 1),.int .u64 (aB (a) 2),.int .u64 (aB (a) 3)],.agg #[.int .u64 (aB (b) 0),.int .u64 (aB (b) 1),.int .u64 (aB (b) 2),.int .u64 (aB (b) 3)]] w fun e w'=>e=.returned (.agg #[.int .u64 (aB (dU a b) 0),.int .u64 (aB (dU a b) 1),.int .u64 (aB (dU a b) 2),.int .u64 (aB (dU a b) 3)])/\Below w.heap.size w w':=by
 go_enter Tryz.func99,Tryz.ntmps99
 go_wp2
 refine bI 5 ?_
 refine aM ?_
 go_wp2
 refine aM ?_
 go_wp2
 refine aM ?_
 go_wp2
 refine aM ?_
 go_wp2
 refine aM ?_
 go_wp2
 exact bodyPost_ret (v:=.agg #[.int .u64 (aB (dU a b) 0),.int .u64 (aB (dU a b) 1),.int .u64 (aB (dU a b) 2),.int .u64 (aB (dU a b) 3)]) (by simp [results,Tryz.results99,go_sem]) rfl ⟨rfl,(((Below.refl _ _).alloc (j9 _) _).alloc (by simp) _).alloc (by simp;omega) _⟩
theorem gK(a b:aQ)(w:World) :
  Calls Tryz.prog 122 #[.agg #[.int .u64 (aB (a) 0),.int .u64 (aB (a) 1),.int .u64 (aB (a) 2),.int .u64 (aB (a) 3)],.agg #[.int .u64 (aB (b) 0),.int .u64 (aB (b) 1),.int .u64 (aB (b) 2),.int .u64 (aB (b) 3)]] w fun e w'=>e=.returned (.agg #[.int .u64 (aB (aW a b) 0),.int .u64 (aB (aW a b) 1),.int .u64 (aB (aW a b) 2),.int .u64 (aB (aW a b) 3)])/\Below w.heap.size w w':=by
 go_enter Tryz.func122,Tryz.ntmps122
 go_wp2
 refine bI 5 ?_
 refine aM ?_
 go_wp2
 refine aM ?_
 go_wp2
 refine aM ?_
 go_wp2
 refine aM ?_
 go_wp2
 refine aM ?_
 go_wp2
 exact bodyPost_ret (v:=.agg #[.int .u64 (aB (aW a b) 0),.int .u64 (aB (aW a b) 1),.int .u64 (aB (aW a b) 2),.int .u64 (aB (aW a b) 3)]) (by simp [results,Tryz.results122,go_sem]) rfl ⟨rfl,(((Below.refl _ _).alloc (j9 _) _).alloc (by simp) _).alloc (by simp;omega) _⟩
end
end Go.Proofs.YtliflleaeimngaaGreatDoor
