/-
  Parts of the proof.
-/
import Derived.Test.YtdgfpiekjigfnaaGreatDoorHoldsProofA0
import Derived.WalkKit
import Derived.Test.YtdgfpiekjigfnaaGreatDoorProg
import Derived.WalkSpells
import Derived.WalkLawsBesides
set_option maxRecDepth 100000
set_option maxHeartbeats 8000000
namespace Go.Proofs.YtdgfpiekjigfnaaGreatDoor
open Go Go.RowKit
section
open Go
def jC(P:Program)(c:Code)(Q:Exit->Act->World->Prop):Nat->Act->World->Prop
 | 0,_,_=>False
 | n+1,a,w=>c.wp P (Exit.then (jC P c Q n) Q) a w
theorem bO{P:Program}{c:Code}{Q:Exit->Act->World->Prop}{n:Nat}{a:Act}{w:World}
  (h:c.wp P (Exit.then (jC P c Q n) Q) a w):jC P c Q (n+1) a w:=h
theorem yA{p:Nat->Prop}:∀ n,p n->∃ m,p m/\∀ k,p k->m<=k:=by
 intro n
 induction n using Nat.strongRecOn with
 | _ n ih=>
  intro h;by_cases g:∃ k,k<n/\p k
  ·obtain⟨k,hk,hp⟩:=g;exact ih k hk hp
  ·exact⟨n,h,fun k hk=>Nat.le_of_not_lt fun hlt=>g ⟨k,hlt,hk⟩⟩
open Classical in
noncomputable def iJ (p:Nat->Prop):Nat:=if h:∃ m,p m/\∀ k,p k->m<=k then Classical.choose h else 0
theorem kV{p:Nat->Prop}{n:Nat}(h:p n):p (iJ p)/\∀ k,p k->iJ p<=k:=by
 have g:=yA n h;unfold iJ;rw [dif_pos g];exact Classical.choose_spec g
theorem iH{P:Program}{c:Code}{Q:Exit->Act->World->Prop}(n:Nat){a:Act}{w:World}
  (h:jC P c Q n a w):(Code.loop c).wp P Q a w:=by
 refine wp_loop (fun a w=>∃ n,jC P c Q n a w) (fun a w=>iJ fun n=>jC P c Q n a w) ⟨n,h⟩ ?_;rintro a w ⟨n,hn⟩;obtain⟨hs,-⟩:=kV (p:=fun n=>jC P c Q n a w) hn;generalize iJ (fun n=>jC P c Q n a w)=m at hs
 cases m with
 | zero=>exact hs.elim
 | succ m=>
  refine wp_mono (show c.wp P (Exit.then (jC P c Q m) Q) a w from hs) ?_;intro e a' w' he
  cases e with
  | normal=>exact⟨⟨m,he⟩,Nat.lt_succ_of_le ((kV (p:=fun n=>jC P c Q n a' w') (n:=m) he).2 m he)⟩
  | exit id=>exact he
  | goto l=>exact he
  | ret=>exact he
  | panic ch=>exact he
  | outgrown=>exact he
end
abbrev cC:=BitVec 256
def aD(s:cC)(i:Nat):Int:=((s.extractLsb' (64*i) 64).toNat:Int)
theorem qM(s:cC)(i:Nat):0<=aD s i/\aD s i<18446744073709551616:=by
 unfold aD;have:=(s.extractLsb' (64*i) 64).isLt;omega
theorem eH(s:cC)(i:Nat):BitVec.ofInt 64 (aD s i)=s.extractLsb' (64*i) 64:=by
 unfold aD;rw [BitVec.ofInt_natCast,BitVec.ofNat_toNat,BitVec.setWidth_eq]
theorem aN6{s t:cC}(h0:aD s 0=aD t 0)(h1:aD s 1=aD t 1)(h2:aD s 2=aD t 2)(h3:aD s 3=aD t 3):s=t:=by
 have g:∀ i,aD s i=aD t i->s.extractLsb' (64*i) 64=t.extractLsb' (64*i) 64:=fun i h=>by
  unfold aD at h;exact BitVec.eq_of_toNat_eq (by omega)
 have k:∀ i,i<4->s.extractLsb' (64*i) 64=t.extractLsb' (64*i) 64:=fun i hi=>by
  match i,hi with
  | 0,_=>exact g 0 h0
  | 1,_=>exact g 1 h1
  | 2,_=>exact g 2 h2
  | 3,_=>exact g 3 h3
 refine BitVec.eq_of_getLsbD_eq fun n hn=>?_;have e:=congrArg (fun z=>z.getLsbD (n%64)) (k (n/64) (by omega));simp only [BitVec.getLsbD_extractLsb'] at e;have hl:n%64<64:=Nat.mod_lt _ (by decide);have hs:64*(n/64)+n%64=n:=Nat.div_add_mod n 64;simpa [hl,hs] using e
theorem rR(s:cC)(i:Nat)(x:BitVec 64)(h:∀ n,n<64->s.getLsbD (64*i+n)=x.getLsbD n):aD s i=(x.toNat:Int):=by
 have e:s.extractLsb' (64*i) 64=x:=BitVec.eq_of_getLsbD_eq fun n hn=>by
  rw [BitVec.getLsbD_extractLsb'];simp [hn,h n hn]
 unfold aD;rw [e]
def aX(a b:cC):cC:=a ||| b
def vV(a b:cC):cC:=a &&& b
def cI(a b:cC):cC:=a &&& ~~~b
def kB(a:cC):cC := ~~~a
def nU(b:Int):cC:=if 0<=b/\b<=255 then BitVec.ofNat 256 (2 ^ b.toNat) else 0
def rT(n m:Int):Nat:=(min (max n 0) m).toNat
def cN(n:Int):cC:=BitVec.ofNat 256 (2 ^ rT n 256-1)
theorem aN9(a b:cC)(i:Nat):(aX a b).extractLsb' (64*i) 64=a.extractLsb' (64*i) 64 ||| b.extractLsb' (64*i) 64:=by
 unfold aX;refine BitVec.eq_of_getLsbD_eq fun n hn=>?_;simp [hn]
theorem aC0(a b:cC)(i:Nat):(vV a b).extractLsb' (64*i) 64=a.extractLsb' (64*i) 64 &&& b.extractLsb' (64*i) 64:=by
 unfold vV;refine BitVec.eq_of_getLsbD_eq fun n hn=>?_;simp [hn]
theorem yC(a b:cC)(i:Nat)(hi:i<4):(cI a b).extractLsb' (64*i) 64=a.extractLsb' (64*i) 64 &&& ~~~b.extractLsb' (64*i) 64:=by
 unfold cI;refine BitVec.eq_of_getLsbD_eq fun n hn=>?_;have h2:64*i+n<256:=by omega
 simp [hn,h2]
theorem aB9(a:cC)(i:Nat)(hi:i<4):(kB a).extractLsb' (64*i) 64= ~~~a.extractLsb' (64*i) 64:=by
 unfold kB;refine BitVec.eq_of_getLsbD_eq fun n hn=>?_;have h2:64*i+n<256:=by omega
 simp [hn,h2]
theorem qO(b:Int)(n:Nat):(nU b).getLsbD n=decide (0<=b/\b<=255/\b=n):=by
 unfold nU
 split
 ·rename_i h
  obtain⟨k,rfl⟩:=Int.eq_ofNat_of_zero_le h.1;rw [BitVec.getLsbD_ofNat];simp only [aAW,Nat.testBit_two_pow];rw [aBL];simp;omega
 ·rename_i h
  simp;omega
theorem fL(m:Int)(n:Nat):(cN m).getLsbD n=decide (n<256/\(n:Int)<m):=by
 unfold cN rT;rw [BitVec.getLsbD_ofNat,Nat.testBit_two_pow_sub_one,aBL];simp;omega
theorem tZ(s:cC)(i:Nat)(h:∀ n,n<64->s.getLsbD (64*i+n)=false):0=aD s i:=by
 rw [rR s i 0#64 (fun n hn=>by rw [h n hn];simp)];rfl
theorem gB(m:Int)(i:Nat)(h:m<=64*i):0=aD (cN m) i:=
 tZ _ _ fun n hn=>by rw [fL];simp;omega
theorem uA(m:Int)(i k:Nat)(hi:i<4)(h0:m=64*i+k)(h1:k<=64):(2:Int) ^ k-1=aD (cN m) i:=by
 have hle:2 ^ k<=2 ^ 64:=Nat.pow_le_pow_right (by decide) h1;have hpos:0<2 ^ k:=Nat.pow_pos (by decide);rw [rR _ i (BitVec.ofNat 64 (2 ^ k-1))]
 ·rw [BitVec.toNat_ofNat,Nat.mod_eq_of_lt (by omega),Int.ofNat_sub hpos];simp
 ·intro n hn;rw [fL,BitVec.getLsbD_ofNat,Nat.testBit_two_pow_sub_one,aBL];simp;omega
theorem uC(m:Int)(i:Nat)(hi:i<4)(h0:64*i+64<=m):18446744073709551615=aD (cN m) i:=by
 rw [rR _ i (BitVec.allOnes 64)]
 ·rfl
 ·intro n hn;rw [fL,BitVec.getLsbD_allOnes,aBL];simp;omega
section
open Go.RowKit
theorem iV(x0 gK gJ gI:Value)(w:World):(Instr.index 36 (.agg #[x0,gK,gJ,gI]) (.I 0)).run Tryz.prog w=.ok x0 w:=by kernel_rfl
theorem iU(x0 gK gJ gI:Value)(w:World):(Instr.index 36 (.agg #[x0,gK,gJ,gI]) (.I 1)).run Tryz.prog w=.ok gK w:=by kernel_rfl
theorem iT(x0 gK gJ gI:Value)(w:World):(Instr.index 36 (.agg #[x0,gK,gJ,gI]) (.I 2)).run Tryz.prog w=.ok gJ w:=by kernel_rfl
theorem iS(x0 gK gJ gI:Value)(w:World):(Instr.index 36 (.agg #[x0,gK,gJ,gI]) (.I 3)).run Tryz.prog w=.ok gI w:=by kernel_rfl
theorem eV(r:BitVec 64):IntKind.u64.wrap (r.toNat:Int)=(r.toNat:Int):=by
 have:=r.isLt;simp [IntKind.wrap,IntKind.bits,IntKind.signed];omega
theorem aC2(a b:cC)(i:Nat):bits .or .u64 (aD a i) (aD b i)=aD (aX a b) i:=by
 show IntKind.u64.wrap ((BitVec.ofInt 64 (aD a i) ||| BitVec.ofInt 64 (aD b i)).toNat:Int)=_;rw [eH,eH,eV,<- aN9];rfl
theorem yD(a b:cC)(i:Nat):bits .and .u64 (aD a i) (aD b i)=aD (vV a b) i:=by
 show IntKind.u64.wrap ((BitVec.ofInt 64 (aD a i) &&& BitVec.ofInt 64 (aD b i)).toNat:Int)=_;rw [eH,eH,eV,<- aC0];rfl
theorem eE(a b:cC)(i:Nat)(hi:i<4):bits .andNot .u64 (aD a i) (aD b i)=aD (cI a b) i:=by
 show IntKind.u64.wrap ((BitVec.ofInt 64 (aD a i) &&& ~~~BitVec.ofInt 64 (aD b i)).toNat:Int)=_;rw [eH,eH,eV,<- yC _ _ _ hi];rfl
theorem fK(a:cC)(i:Nat)(hi:i<4):bits .xor .u64 IntKind.u64.max (aD a i)=aD (kB a) i:=by
 show IntKind.u64.wrap ((BitVec.ofInt 64 IntKind.u64.max ^^^ BitVec.ofInt 64 (aD a i)).toNat:Int)=_;have e:BitVec.ofInt 64 IntKind.u64.max=BitVec.allOnes 64:=by decide
 rw [e,eH,eV,BitVec.allOnes_xor,<- aB9 _ _ hi];rfl
theorem rA(a b:cC):bits .andNot .u64 (aD a 0) (aD b 0)=aD (cI a b) 0:=eE a b 0 (by decide)
theorem qZ(a b:cC):bits .andNot .u64 (aD a 1) (aD b 1)=aD (cI a b) 1:=eE a b 1 (by decide)
theorem qY(a b:cC):bits .andNot .u64 (aD a 2) (aD b 2)=aD (cI a b) 2:=eE a b 2 (by decide)
theorem qX(a b:cC):bits .andNot .u64 (aD a 3) (aD b 3)=aD (cI a b) 3:=eE a b 3 (by decide)
theorem wD(a:cC):bits .xor .u64 IntKind.u64.max (aD a 0)=aD (kB a) 0:=fK a 0 (by decide)
theorem wC(a:cC):bits .xor .u64 IntKind.u64.max (aD a 1)=aD (kB a) 1:=fK a 1 (by decide)
theorem wB(a:cC):bits .xor .u64 IntKind.u64.max (aD a 2)=aD (kB a) 2:=fK a 2 (by decide)
theorem wA(a:cC):bits .xor .u64 IntKind.u64.max (aD a 3)=aD (kB a) 3:=fK a 3 (by decide)
theorem cL:IntKind.u64.signed=false:=rfl
end
section
open Go.RowKit
attribute [local go_sem] iV iU iT iS aC2 yD rA qZ qY qX wD wC wB wA cL
theorem lZ(a b:cC)(w:World) :
  Calls Tryz.prog 63 #[.agg #[.int .u64 (aD (a) 0),.int .u64 (aD (a) 1),.int .u64 (aD (a) 2),.int .u64 (aD (a) 3)],.agg #[.int .u64 (aD (b) 0),.int .u64 (aD (b) 1),.int .u64 (aD (b) 2),.int .u64 (aD (b) 3)]] w fun e w'=>e=.returned (.agg #[.int .u64 (aD (aX a b) 0),.int .u64 (aD (aX a b) 1),.int .u64 (aD (aX a b) 2),.int .u64 (aD (aX a b) 3)])/\Below w.heap.size w w':=by
 go_enter Tryz.func63,Tryz.ntmps63;go_wp2;refine iH 5 ?_;refine bO ?_;go_wp2;refine bO ?_;go_wp2;refine bO ?_;go_wp2;refine bO ?_;go_wp2;refine bO ?_;go_wp2;exact bodyPost_ret (v:=.agg #[.int .u64 (aD (aX a b) 0),.int .u64 (aD (aX a b) 1),.int .u64 (aD (aX a b) 2),.int .u64 (aD (aX a b) 3)]) (by simp [results,Tryz.results63,go_sem]) rfl ⟨rfl,(((Below.refl _ _).alloc (t9 _) _).alloc (by simp) _).alloc (by simp;omega) _⟩
theorem xZ(a b:cC)(w:World) :
  Calls Tryz.prog 143 #[.agg #[.int .u64 (aD (a) 0),.int .u64 (aD (a) 1),.int .u64 (aD (a) 2),.int .u64 (aD (a) 3)],.agg #[.int .u64 (aD (b) 0),.int .u64 (aD (b) 1),.int .u64 (aD (b) 2),.int .u64 (aD (b) 3)]] w fun e w'=>e=.returned (.agg #[.int .u64 (aD (cI a b) 0),.int .u64 (aD (cI a b) 1),.int .u64 (aD (cI a b) 2),.int .u64 (aD (cI a b) 3)])/\Below w.heap.size w w':=by
 go_enter Tryz.func143,Tryz.ntmps143;go_wp2;refine iH 5 ?_;refine bO ?_;go_wp2;refine bO ?_;go_wp2;refine bO ?_;go_wp2;refine bO ?_;go_wp2;refine bO ?_;go_wp2;exact bodyPost_ret (v:=.agg #[.int .u64 (aD (cI a b) 0),.int .u64 (aD (cI a b) 1),.int .u64 (aD (cI a b) 2),.int .u64 (aD (cI a b) 3)]) (by simp [results,Tryz.results143,go_sem]) rfl ⟨rfl,(((Below.refl _ _).alloc (t9 _) _).alloc (by simp) _).alloc (by simp;omega) _⟩
end
end Go.Proofs.YtdgfpiekjigfnaaGreatDoor
