/-
  Parts of the proof.
-/
import Derived.WalkKit
import Derived.Test.YtjafnbjipgediaaGreatDoorProg
import Derived.WalkSpells
import Derived.WalkLawsBesides
set_option maxRecDepth 100000
set_option maxHeartbeats 8000000
namespace Go.Proofs.YtjafnbjipgediaaGreatDoor
open Go Go.RowKit
section
open Go
def iC(P:Program)(c:Code)(Q:Exit->Act->World->Prop):Nat->Act->World->Prop
 | 0,_,_=>False
 | n+1,a,w=>c.wp P (Exit.then (iC P c Q n) Q) a w
theorem bK{P:Program}{c:Code}{Q:Exit->Act->World->Prop}{n:Nat}{a:Act}{w:World}
  (h:c.wp P (Exit.then (iC P c Q n) Q) a w):iC P c Q (n+1) a w:=h
theorem uQ{p:Nat->Prop}:∀ n,p n->∃ m,p m/\∀ k,p k->m<=k:=by
 intro n
 induction n using Nat.strongRecOn with
 | _ n ih=>
  intro h
  by_cases g:∃ k,k < n/\p k
  ·obtain⟨k,hk,hp⟩:=g
   exact ih k hk hp
  ·exact⟨n,h,fun k hk=>Nat.le_of_not_lt fun hlt=>g ⟨k,hlt,hk⟩⟩
open Classical in
noncomputable def gN (p:Nat->Prop):Nat:=if h:∃ m,p m/\∀ k,p k->m<=k then Classical.choose h else 0
theorem jK{p:Nat->Prop}{n:Nat}(h:p n):p (gN p)/\∀ k,p k->gN p<=k:=by
 have g:=uQ n h
 unfold gN
 rw [dif_pos g]
 exact Classical.choose_spec g
theorem gL{P:Program}{c:Code}{Q:Exit->Act->World->Prop}(n:Nat){a:Act}{w:World}
  (h:iC P c Q n a w):(Code.loop c).wp P Q a w:=by
 refine wp_loop (fun a w=>∃ n,iC P c Q n a w) (fun a w=>gN fun n=>iC P c Q n a w) ⟨n,h⟩ ?_
 rintro a w ⟨n,hn⟩
 obtain⟨hs,-⟩:=jK (p:=fun n=>iC P c Q n a w) hn
 generalize gN (fun n=>iC P c Q n a w)=m at hs
 cases m with
 | zero=>exact hs.elim
 | succ m=>
  refine wp_mono (show c.wp P (Exit.then (iC P c Q m) Q) a w from hs) ?_
  intro e a' w' he
  cases e with
  | normal=>exact⟨⟨m,he⟩,Nat.lt_succ_of_le ((jK (p:=fun n=>iC P c Q n a' w') (n:=m) he).2 m he)⟩
  | exit id=>exact he
  | goto l=>exact he
  | ret=>exact he
  | panic ch=>exact he
  | outgrown=>exact he
end
abbrev cE:=BitVec 256
def aD(s:cE)(i:Nat):Int:=((s.extractLsb' (64 * i) 64).toNat:Int)
theorem uN(s:cE)(i:Nat):0<=aD s i/\aD s i < 18446744073709551616:=by
 unfold aD
 have:=(s.extractLsb' (64 * i) 64).isLt
 omega
theorem dS(s:cE)(i:Nat):BitVec.ofInt 64 (aD s i)=s.extractLsb' (64 * i) 64:=by
 unfold aD
 rw [BitVec.ofInt_natCast,BitVec.ofNat_toNat,BitVec.setWidth_eq]
theorem aB1{s t:cE}(h0:aD s 0=aD t 0)(h1:aD s 1=aD t 1)(h2:aD s 2=aD t 2)(h3:aD s 3=aD t 3):s=t:=by
 have g:∀ i,aD s i=aD t i->s.extractLsb' (64 * i) 64=t.extractLsb' (64 * i) 64:=fun i h=>by
  unfold aD at h;exact BitVec.eq_of_toNat_eq (by omega)
 have k:∀ i,i < 4->s.extractLsb' (64 * i) 64=t.extractLsb' (64 * i) 64:=fun i hi=>by
  match i,hi with
  | 0,_=>exact g 0 h0
  | 1,_=>exact g 1 h1
  | 2,_=>exact g 2 h2
  | 3,_=>exact g 3 h3
 refine BitVec.eq_of_getLsbD_eq fun n hn=>?_
 have e:=congrArg (fun z=>z.getLsbD (n % 64)) (k (n / 64) (by omega))
 simp only [BitVec.getLsbD_extractLsb'] at e
 have hl:n % 64 < 64:=Nat.mod_lt _ (by decide)
 have hs:64 * (n / 64)+n % 64=n:=Nat.div_add_mod n 64
 simpa [hl,hs] using e
theorem pA(s:cE)(i:Nat)(x:BitVec 64)(h:∀ n,n < 64->s.getLsbD (64 * i+n)=x.getLsbD n):aD s i=(x.toNat:Int):=by
 have e:s.extractLsb' (64 * i) 64=x:=BitVec.eq_of_getLsbD_eq fun n hn=>by
  rw [BitVec.getLsbD_extractLsb'];simp [hn,h n hn]
 unfold aD;rw [e]
def bC(a b:cE):cE:=a ||| b
def sT(a b:cE):cE:=a &&& b
def cD(a b:cE):cE:=a &&& ~~~b
def iT(a:cE):cE := ~~~a
def lS(b:Int):cE:=if 0<=b/\b<=255 then BitVec.ofNat 256 (2 ^ b.toNat) else 0
def pC(n m:Int):Nat:=(min (max n 0) m).toNat
def cH(n:Int):cE:=BitVec.ofNat 256 (2 ^ pC n 256 - 1)
theorem aB3(a b:cE)(i:Nat):(bC a b).extractLsb' (64 * i) 64=a.extractLsb' (64 * i) 64 ||| b.extractLsb' (64 * i) 64:=by
 unfold bC;refine BitVec.eq_of_getLsbD_eq fun n hn=>?_;simp [hn]
theorem xD(a b:cE)(i:Nat):(sT a b).extractLsb' (64 * i) 64=a.extractLsb' (64 * i) 64 &&& b.extractLsb' (64 * i) 64:=by
 unfold sT;refine BitVec.eq_of_getLsbD_eq fun n hn=>?_;simp [hn]
theorem uS(a b:cE)(i:Nat)(hi:i < 4):(cD a b).extractLsb' (64 * i) 64=a.extractLsb' (64 * i) 64 &&& ~~~b.extractLsb' (64 * i) 64:=by
 unfold cD;refine BitVec.eq_of_getLsbD_eq fun n hn=>?_;have h2:64 * i+n < 256:=by omega
 simp [hn,h2]
theorem xC(a:cE)(i:Nat)(hi:i < 4):(iT a).extractLsb' (64 * i) 64= ~~~a.extractLsb' (64 * i) 64:=by
 unfold iT;refine BitVec.eq_of_getLsbD_eq fun n hn=>?_;have h2:64 * i+n < 256:=by omega
 simp [hn,h2]
theorem nZ(b:Int)(n:Nat):(lS b).getLsbD n=decide (0<=b/\b<=255/\b=n):=by
 unfold lS
 split
 ·rename_i h
  obtain⟨k,rfl⟩:=Int.eq_ofNat_of_zero_le h.1
  rw [BitVec.getLsbD_ofNat]
  simp only [Int.toNat_natCast,Nat.testBit_two_pow]
  rw [Bool.eq_iff_iff];simp;omega
 ·rename_i h
  simp;omega
theorem eT(m:Int)(n:Nat):(cH m).getLsbD n=decide (n < 256/\(n:Int) < m):=by
 unfold cH pC
 rw [BitVec.getLsbD_ofNat,Nat.testBit_two_pow_sub_one,Bool.eq_iff_iff];simp;omega
theorem rA(s:cE)(i:Nat)(h:∀ n,n < 64->s.getLsbD (64 * i+n)=false):0=aD s i:=by
 rw [pA s i 0#64 (fun n hn=>by rw [h n hn];simp)];rfl
theorem fM(m:Int)(i:Nat)(h:m<=64 * i):0=aD (cH m) i:=
 rA _ _ fun n hn=>by rw [eT];simp;omega
theorem rB(m:Int)(i k:Nat)(hi:i < 4)(h0:m=64 * i+k)(h1:k<=64):(2:Int) ^ k - 1=aD (cH m) i:=by
 have hle:2 ^ k<=2 ^ 64:=Nat.pow_le_pow_right (by decide) h1
 have hpos:0 < 2 ^ k:=Nat.pow_pos (by decide)
 rw [pA _ i (BitVec.ofNat 64 (2 ^ k - 1))]
 ·rw [BitVec.toNat_ofNat,Nat.mod_eq_of_lt (by omega),Int.ofNat_sub hpos];simp
 ·intro n hn
  rw [eT,BitVec.getLsbD_ofNat,Nat.testBit_two_pow_sub_one,Bool.eq_iff_iff];simp;omega
theorem rC(m:Int)(i:Nat)(hi:i < 4)(h0:64 * i+64<=m):18446744073709551615=aD (cH m) i:=by
 rw [pA _ i (BitVec.allOnes 64)]
 ·rfl
 ·intro n hn
  rw [eT,BitVec.getLsbD_allOnes,Bool.eq_iff_iff];simp;omega
section
open Go.RowKit
theorem hP(x0 fT fS fR:Value)(w:World):(Instr.index 36 (.agg #[x0,fT,fS,fR]) (.int .i64 0)).run Tryz.prog w=.ok x0 w:=by kernel_rfl
theorem gZ(x0 fT fS fR:Value)(w:World):(Instr.index 36 (.agg #[x0,fT,fS,fR]) (.int .i64 1)).run Tryz.prog w=.ok fT w:=by kernel_rfl
theorem gY(x0 fT fS fR:Value)(w:World):(Instr.index 36 (.agg #[x0,fT,fS,fR]) (.int .i64 2)).run Tryz.prog w=.ok fS w:=by kernel_rfl
theorem gX(x0 fT fS fR:Value)(w:World):(Instr.index 36 (.agg #[x0,fT,fS,fR]) (.int .i64 3)).run Tryz.prog w=.ok fR w:=by kernel_rfl
theorem fL(r:BitVec 64):IntKind.u64.wrap (r.toNat:Int)=(r.toNat:Int):=by
 have:=r.isLt
 simp [IntKind.wrap,IntKind.bits,IntKind.signed]
 omega
theorem xF(a b:cE)(i:Nat):bits .or .u64 (aD a i) (aD b i)=aD (bC a b) i:=by
 show IntKind.u64.wrap ((BitVec.ofInt 64 (aD a i) ||| BitVec.ofInt 64 (aD b i)).toNat:Int)=_
 rw [dS,dS,fL,<- aB3];rfl
theorem uT(a b:cE)(i:Nat):bits .and .u64 (aD a i) (aD b i)=aD (sT a b) i:=by
 show IntKind.u64.wrap ((BitVec.ofInt 64 (aD a i) &&& BitVec.ofInt 64 (aD b i)).toNat:Int)=_
 rw [dS,dS,fL,<- xD];rfl
theorem dN(a b:cE)(i:Nat)(hi:i < 4):bits .andNot .u64 (aD a i) (aD b i)=aD (cD a b) i:=by
 show IntKind.u64.wrap ((BitVec.ofInt 64 (aD a i) &&& ~~~BitVec.ofInt 64 (aD b i)).toNat:Int)=_
 rw [dS,dS,fL,<- uS _ _ _ hi];rfl
theorem eS(a:cE)(i:Nat)(hi:i < 4):bits .xor .u64 IntKind.u64.max (aD a i)=aD (iT a) i:=by
 show IntKind.u64.wrap ((BitVec.ofInt 64 IntKind.u64.max ^^^ BitVec.ofInt 64 (aD a i)).toNat:Int)=_
 have e:BitVec.ofInt 64 IntKind.u64.max=BitVec.allOnes 64:=by decide
 rw [e,dS,fL,BitVec.allOnes_xor,<- xC _ _ hi];rfl
theorem oM(a b:cE):bits .andNot .u64 (aD a 0) (aD b 0)=aD (cD a b) 0:=dN a b 0 (by decide)
theorem oL(a b:cE):bits .andNot .u64 (aD a 1) (aD b 1)=aD (cD a b) 1:=dN a b 1 (by decide)
theorem oK(a b:cE):bits .andNot .u64 (aD a 2) (aD b 2)=aD (cD a b) 2:=dN a b 2 (by decide)
theorem oJ(a b:cE):bits .andNot .u64 (aD a 3) (aD b 3)=aD (cD a b) 3:=dN a b 3 (by decide)
theorem tB(a:cE):bits .xor .u64 IntKind.u64.max (aD a 0)=aD (iT a) 0:=eS a 0 (by decide)
theorem tA(a:cE):bits .xor .u64 IntKind.u64.max (aD a 1)=aD (iT a) 1:=eS a 1 (by decide)
theorem sZ(a:cE):bits .xor .u64 IntKind.u64.max (aD a 2)=aD (iT a) 2:=eS a 2 (by decide)
theorem sY(a:cE):bits .xor .u64 IntKind.u64.max (aD a 3)=aD (iT a) 3:=eS a 3 (by decide)
theorem cG:IntKind.u64.signed=false:=rfl
end
section
open Go.RowKit
attribute [local go_sem] hP gZ gY gX xF uT oM oL oK oJ tB tA sZ sY cG
theorem kH(a b:cE)(w:World) :
  Calls Tryz.prog 86 #[.agg #[.int .u64 (aD (a) 0),.int .u64 (aD (a) 1),.int .u64 (aD (a) 2),.int .u64 (aD (a) 3)],.agg #[.int .u64 (aD (b) 0),.int .u64 (aD (b) 1),.int .u64 (aD (b) 2),.int .u64 (aD (b) 3)]] w fun e w'=>e=.returned (.agg #[.int .u64 (aD (bC a b) 0),.int .u64 (aD (bC a b) 1),.int .u64 (aD (bC a b) 2),.int .u64 (aD (bC a b) 3)])/\Below w.heap.size w w':=by
 go_enter Tryz.func86,Tryz.ntmps86
 go_wp2
 refine gL 5 ?_
 refine bK ?_
 go_wp2
 refine bK ?_
 go_wp2
 refine bK ?_
 go_wp2
 refine bK ?_
 go_wp2
 refine bK ?_
 go_wp2
 exact bodyPost_ret (v:=.agg #[.int .u64 (aD (bC a b) 0),.int .u64 (aD (bC a b) 1),.int .u64 (aD (bC a b) 2),.int .u64 (aD (bC a b) 3)]) (by simp [results,Tryz.results86,go_sem]) rfl ⟨rfl,(((Below.refl _ _).alloc (Nat.le_refl _) _).alloc (by simp) _).alloc (by simp;omega) _⟩
theorem uP(a b:cE)(w:World) :
  Calls Tryz.prog 178 #[.agg #[.int .u64 (aD (a) 0),.int .u64 (aD (a) 1),.int .u64 (aD (a) 2),.int .u64 (aD (a) 3)],.agg #[.int .u64 (aD (b) 0),.int .u64 (aD (b) 1),.int .u64 (aD (b) 2),.int .u64 (aD (b) 3)]] w fun e w'=>e=.returned (.agg #[.int .u64 (aD (cD a b) 0),.int .u64 (aD (cD a b) 1),.int .u64 (aD (cD a b) 2),.int .u64 (aD (cD a b) 3)])/\Below w.heap.size w w':=by
 go_enter Tryz.func178,Tryz.ntmps178
 go_wp2
 refine gL 5 ?_
 refine bK ?_
 go_wp2
 refine bK ?_
 go_wp2
 refine bK ?_
 go_wp2
 refine bK ?_
 go_wp2
 refine bK ?_
 go_wp2
 exact bodyPost_ret (v:=.agg #[.int .u64 (aD (cD a b) 0),.int .u64 (aD (cD a b) 1),.int .u64 (aD (cD a b) 2),.int .u64 (aD (cD a b) 3)]) (by simp [results,Tryz.results178,go_sem]) rfl ⟨rfl,(((Below.refl _ _).alloc (Nat.le_refl _) _).alloc (by simp) _).alloc (by simp;omega) _⟩
end
end Go.Proofs.YtjafnbjipgediaaGreatDoor
