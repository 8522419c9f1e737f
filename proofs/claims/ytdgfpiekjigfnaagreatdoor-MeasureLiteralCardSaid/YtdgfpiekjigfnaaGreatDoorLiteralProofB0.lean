/-
  Parts of the proof.
-/
import Derived.Test.YtdgfpiekjigfnaaGreatDoorLiteralProofA0
import Derived.WalkKit
import Derived.Test.YtdgfpiekjigfnaaGreatDoorProg
import Derived.WalkSpells
import Derived.WalkLawsBesides
set_option maxRecDepth 100000
set_option maxHeartbeats 8000000
namespace Go.Proofs.YtdgfpiekjigfnaaGreatDoor
open Go Go.RowKit
section
open Go
def iY(P:Program)(c:Code)(Q:Exit->Act->World->Prop):Nat->Act->World->Prop
 | 0,_,_=>False
 | n+1,a,w=>c.wp P (Exit.then (iY P c Q n) Q) a w
theorem bO{P:Program}{c:Code}{Q:Exit->Act->World->Prop}{n:Nat}{a:Act}{w:World}
  (h:c.wp P (Exit.then (iY P c Q n) Q) a w):iY P c Q (n+1) a w:=h
theorem xN{p:Nat->Prop}:∀ n,p n->∃ m,p m/\∀ k,p k->m<=k:=by
 intro n
 induction n using Nat.strongRecOn with
 | _ n ih=>
  intro h;by_cases g:∃ k,k<n/\p k
  ·obtain⟨k,hk,hp⟩:=g;exact ih k hk hp
  ·exact⟨n,h,fun k hk=>Nat.le_of_not_lt fun hlt=>g ⟨k,hlt,hk⟩⟩
open Classical in
noncomputable def iL (p:Nat->Prop):Nat:=if h:∃ m,p m/\∀ k,p k->m<=k then Classical.choose h else 0
theorem kS{p:Nat->Prop}{n:Nat}(h:p n):p (iL p)/\∀ k,p k->iL p<=k:=by
 have g:=xN n h;unfold iL;rw [dif_pos g];exact Classical.choose_spec g
theorem iJ{P:Program}{c:Code}{Q:Exit->Act->World->Prop}(n:Nat){a:Act}{w:World}
  (h:iY P c Q n a w):(Code.loop c).wp P Q a w:=by
 refine wp_loop (fun a w=>∃ n,iY P c Q n a w) (fun a w=>iL fun n=>iY P c Q n a w) ⟨n,h⟩ ?_;rintro a w ⟨n,hn⟩;obtain⟨hs,-⟩:=kS (p:=fun n=>iY P c Q n a w) hn;generalize iL (fun n=>iY P c Q n a w)=m at hs
 cases m with
 | zero=>exact hs.elim
 | succ m=>
  refine wp_mono (show c.wp P (Exit.then (iY P c Q m) Q) a w from hs) ?_;intro e a' w' he
  cases e with
  | normal=>exact⟨⟨m,he⟩,Nat.lt_succ_of_le ((kS (p:=fun n=>iY P c Q n a' w') (n:=m) he).2 m he)⟩
  | exit id=>exact he
  | goto l=>exact he
  | ret=>exact he
  | panic ch=>exact he
  | outgrown=>exact he
end
abbrev cF:=BitVec 256
def aD(s:cF)(i:Nat):Int:=((s.extractLsb' (64*i) 64).toNat:Int)
theorem xK(s:cF)(i:Nat):0<=aD s i/\aD s i<18446744073709551616:=by
 unfold aD;have:=(s.extractLsb' (64*i) 64).isLt;omega
theorem eJ(s:cF)(i:Nat):BitVec.ofInt 64 (aD s i)=s.extractLsb' (64*i) 64:=by
 unfold aD;rw [BitVec.ofInt_natCast,BitVec.ofNat_toNat,BitVec.setWidth_eq]
theorem aM3{s t:cF}(h0:aD s 0=aD t 0)(h1:aD s 1=aD t 1)(h2:aD s 2=aD t 2)(h3:aD s 3=aD t 3):s=t:=by
 have g:∀ i,aD s i=aD t i->s.extractLsb' (64*i) 64=t.extractLsb' (64*i) 64:=fun i h=>by
  unfold aD at h;exact BitVec.eq_of_toNat_eq (by omega)
 have k:∀ i,i<4->s.extractLsb' (64*i) 64=t.extractLsb' (64*i) 64:=fun i hi=>by
  match i,hi with
  | 0,_=>exact g 0 h0
  | 1,_=>exact g 1 h1
  | 2,_=>exact g 2 h2
  | 3,_=>exact g 3 h3
 refine BitVec.eq_of_getLsbD_eq fun n hn=>?_;have e:=congrArg (fun z=>z.getLsbD (n%64)) (k (n/64) (by omega));simp only [BitVec.getLsbD_extractLsb'] at e;have hl:n%64<64:=Nat.mod_lt _ (by decide);have hs:64*(n/64)+n%64=n:=Nat.div_add_mod n 64;simpa [hl,hs] using e
theorem rL(s:cF)(i:Nat)(x:BitVec 64)(h:∀ n,n<64->s.getLsbD (64*i+n)=x.getLsbD n):aD s i=(x.toNat:Int):=by
 have e:s.extractLsb' (64*i) 64=x:=BitVec.eq_of_getLsbD_eq fun n hn=>by
  rw [BitVec.getLsbD_extractLsb'];simp [hn,h n hn]
 unfold aD;rw [e]
def bC(a b:cF):cF:=a ||| b
def vH(a b:cF):cF:=a &&& b
def cE(a b:cF):cF:=a &&& ~~~b
def jW(a:cF):cF := ~~~a
def nR(b:Int):cF:=if 0<=b/\b<=255 then BitVec.ofNat 256 (2 ^ b.toNat) else 0
def rN(n m:Int):Nat:=(min (max n 0) m).toNat
def cN(n:Int):cF:=BitVec.ofNat 256 (2 ^ rN n 256-1)
theorem aM5(a b:cF)(i:Nat):(bC a b).extractLsb' (64*i) 64=a.extractLsb' (64*i) 64 ||| b.extractLsb' (64*i) 64:=by
 unfold bC;refine BitVec.eq_of_getLsbD_eq fun n hn=>?_;simp [hn]
theorem aB0(a b:cF)(i:Nat):(vH a b).extractLsb' (64*i) 64=a.extractLsb' (64*i) 64 &&& b.extractLsb' (64*i) 64:=by
 unfold vH;refine BitVec.eq_of_getLsbD_eq fun n hn=>?_;simp [hn]
theorem xP(a b:cF)(i:Nat)(hi:i<4):(cE a b).extractLsb' (64*i) 64=a.extractLsb' (64*i) 64 &&& ~~~b.extractLsb' (64*i) 64:=by
 unfold cE;refine BitVec.eq_of_getLsbD_eq fun n hn=>?_;have h2:64*i+n<256:=by omega
 simp [hn,h2]
theorem aA9(a:cF)(i:Nat)(hi:i<4):(jW a).extractLsb' (64*i) 64= ~~~a.extractLsb' (64*i) 64:=by
 unfold jW;refine BitVec.eq_of_getLsbD_eq fun n hn=>?_;have h2:64*i+n<256:=by omega
 simp [hn,h2]
theorem qF(b:Int)(n:Nat):(nR b).getLsbD n=decide (0<=b/\b<=255/\b=n):=by
 unfold nR
 split
 ·rename_i h
  obtain⟨k,rfl⟩:=Int.eq_ofNat_of_zero_le h.1;rw [BitVec.getLsbD_ofNat];simp only [aAX,Nat.testBit_two_pow];rw [aBQ];simp;omega
 ·rename_i h
  simp;omega
theorem fL(m:Int)(n:Nat):(cN m).getLsbD n=decide (n<256/\(n:Int)<m):=by
 unfold cN rN;rw [BitVec.getLsbD_ofNat,Nat.testBit_two_pow_sub_one,aBQ];simp;omega
theorem tL(s:cF)(i:Nat)(h:∀ n,n<64->s.getLsbD (64*i+n)=false):0=aD s i:=by
 rw [rL s i 0#64 (fun n hn=>by rw [h n hn];simp)];rfl
theorem gB(m:Int)(i:Nat)(h:m<=64*i):0=aD (cN m) i:=
 tL _ _ fun n hn=>by rw [fL];simp;omega
theorem tM(m:Int)(i k:Nat)(hi:i<4)(h0:m=64*i+k)(h1:k<=64):(2:Int) ^ k-1=aD (cN m) i:=by
 have hle:2 ^ k<=2 ^ 64:=Nat.pow_le_pow_right (by decide) h1;have hpos:0<2 ^ k:=Nat.pow_pos (by decide);rw [rL _ i (BitVec.ofNat 64 (2 ^ k-1))]
 ·rw [BitVec.toNat_ofNat,Nat.mod_eq_of_lt (by omega),Int.ofNat_sub hpos];simp
 ·intro n hn;rw [fL,BitVec.getLsbD_ofNat,Nat.testBit_two_pow_sub_one,aBQ];simp;omega
theorem tN(m:Int)(i:Nat)(hi:i<4)(h0:64*i+64<=m):18446744073709551615=aD (cN m) i:=by
 rw [rL _ i (BitVec.allOnes 64)]
 ·rfl
 ·intro n hn;rw [fL,BitVec.getLsbD_allOnes,aBQ];simp;omega
section
open Go.RowKit
theorem kA(x0 gK gJ gI:Value)(w:World):(Instr.index 36 (.agg #[x0,gK,gJ,gI]) (.I 0)).run Tryz.prog w=.ok x0 w:=by kernel_rfl
theorem jZ(x0 gK gJ gI:Value)(w:World):(Instr.index 36 (.agg #[x0,gK,gJ,gI]) (.I 1)).run Tryz.prog w=.ok gK w:=by kernel_rfl
theorem jY(x0 gK gJ gI:Value)(w:World):(Instr.index 36 (.agg #[x0,gK,gJ,gI]) (.I 2)).run Tryz.prog w=.ok gJ w:=by kernel_rfl
theorem jX(x0 gK gJ gI:Value)(w:World):(Instr.index 36 (.agg #[x0,gK,gJ,gI]) (.I 3)).run Tryz.prog w=.ok gI w:=by kernel_rfl
theorem gA(r:BitVec 64):IntKind.u64.wrap (r.toNat:Int)=(r.toNat:Int):=by
 have:=r.isLt;simp [IntKind.wrap,IntKind.bits,IntKind.signed];omega
theorem aB2(a b:cF)(i:Nat):bits .or .u64 (aD a i) (aD b i)=aD (bC a b) i:=by
 show IntKind.u64.wrap ((BitVec.ofInt 64 (aD a i) ||| BitVec.ofInt 64 (aD b i)).toNat:Int)=_;rw [eJ,eJ,gA,<- aM5];rfl
theorem xQ(a b:cF)(i:Nat):bits .and .u64 (aD a i) (aD b i)=aD (vH a b) i:=by
 show IntKind.u64.wrap ((BitVec.ofInt 64 (aD a i) &&& BitVec.ofInt 64 (aD b i)).toNat:Int)=_;rw [eJ,eJ,gA,<- aB0];rfl
theorem eF(a b:cF)(i:Nat)(hi:i<4):bits .andNot .u64 (aD a i) (aD b i)=aD (cE a b) i:=by
 show IntKind.u64.wrap ((BitVec.ofInt 64 (aD a i) &&& ~~~BitVec.ofInt 64 (aD b i)).toNat:Int)=_;rw [eJ,eJ,gA,<- xP _ _ _ hi];rfl
theorem fK(a:cF)(i:Nat)(hi:i<4):bits .xor .u64 IntKind.u64.max (aD a i)=aD (jW a) i:=by
 show IntKind.u64.wrap ((BitVec.ofInt 64 IntKind.u64.max ^^^ BitVec.ofInt 64 (aD a i)).toNat:Int)=_;have e:BitVec.ofInt 64 IntKind.u64.max=BitVec.allOnes 64:=by decide
 rw [e,eJ,gA,BitVec.allOnes_xor,<- aA9 _ _ hi];rfl
theorem qT(a b:cF):bits .andNot .u64 (aD a 0) (aD b 0)=aD (cE a b) 0:=eF a b 0 (by decide)
theorem qS(a b:cF):bits .andNot .u64 (aD a 1) (aD b 1)=aD (cE a b) 1:=eF a b 1 (by decide)
theorem qR(a b:cF):bits .andNot .u64 (aD a 2) (aD b 2)=aD (cE a b) 2:=eF a b 2 (by decide)
theorem qQ(a b:cF):bits .andNot .u64 (aD a 3) (aD b 3)=aD (cE a b) 3:=eF a b 3 (by decide)
theorem vQ(a:cF):bits .xor .u64 IntKind.u64.max (aD a 0)=aD (jW a) 0:=fK a 0 (by decide)
theorem vP(a:cF):bits .xor .u64 IntKind.u64.max (aD a 1)=aD (jW a) 1:=fK a 1 (by decide)
theorem vO(a:cF):bits .xor .u64 IntKind.u64.max (aD a 2)=aD (jW a) 2:=fK a 2 (by decide)
theorem vM(a:cF):bits .xor .u64 IntKind.u64.max (aD a 3)=aD (jW a) 3:=fK a 3 (by decide)
theorem cT:IntKind.u64.signed=false:=rfl
end
section
open Go.RowKit
attribute [local go_sem] kA jZ jY jX aB2 xQ qT qS qR qQ vQ vP vO vM cT
theorem mA(a b:cF)(w:World) :
  Calls Tryz.prog 63 #[.agg #[.int .u64 (aD (a) 0),.int .u64 (aD (a) 1),.int .u64 (aD (a) 2),.int .u64 (aD (a) 3)],.agg #[.int .u64 (aD (b) 0),.int .u64 (aD (b) 1),.int .u64 (aD (b) 2),.int .u64 (aD (b) 3)]] w fun e w'=>e=.returned (.agg #[.int .u64 (aD (bC a b) 0),.int .u64 (aD (bC a b) 1),.int .u64 (aD (bC a b) 2),.int .u64 (aD (bC a b) 3)])/\Below w.heap.size w w':=by
 go_enter Tryz.func63,Tryz.ntmps63;go_wp2;refine iJ 5 ?_;refine bO ?_;go_wp2;refine bO ?_;go_wp2;refine bO ?_;go_wp2;refine bO ?_;go_wp2;refine bO ?_;go_wp2;exact bodyPost_ret (v:=.agg #[.int .u64 (aD (bC a b) 0),.int .u64 (aD (bC a b) 1),.int .u64 (aD (bC a b) 2),.int .u64 (aD (bC a b) 3)]) (by simp [results,Tryz.results63,go_sem]) rfl ⟨rfl,(((Below.refl _ _).alloc (aAB _) _).alloc (by simp) _).alloc (by simp;omega) _⟩
theorem xM(a b:cF)(w:World) :
  Calls Tryz.prog 143 #[.agg #[.int .u64 (aD (a) 0),.int .u64 (aD (a) 1),.int .u64 (aD (a) 2),.int .u64 (aD (a) 3)],.agg #[.int .u64 (aD (b) 0),.int .u64 (aD (b) 1),.int .u64 (aD (b) 2),.int .u64 (aD (b) 3)]] w fun e w'=>e=.returned (.agg #[.int .u64 (aD (cE a b) 0),.int .u64 (aD (cE a b) 1),.int .u64 (aD (cE a b) 2),.int .u64 (aD (cE a b) 3)])/\Below w.heap.size w w':=by
 go_enter Tryz.func143,Tryz.ntmps143;go_wp2;refine iJ 5 ?_;refine bO ?_;go_wp2;refine bO ?_;go_wp2;refine bO ?_;go_wp2;refine bO ?_;go_wp2;refine bO ?_;go_wp2;exact bodyPost_ret (v:=.agg #[.int .u64 (aD (cE a b) 0),.int .u64 (aD (cE a b) 1),.int .u64 (aD (cE a b) 2),.int .u64 (aD (cE a b) 3)]) (by simp [results,Tryz.results143,go_sem]) rfl ⟨rfl,(((Below.refl _ _).alloc (aAB _) _).alloc (by simp) _).alloc (by simp;omega) _⟩
end
end Go.Proofs.YtdgfpiekjigfnaaGreatDoor
