/-
  Parts of the proof.
-/
import Derived.WalkKit
import Derived.Test.YtjafnbjipgediaaGreatDoorProg
import Derived.WalkSpells
import Derived.WalkLawsBesides
set_option maxRecDepth 100000
set_option maxHeartbeats 8000000
namespace Go.Proofs.YtjafnbjipgediaaGreatDoor
open Go Go.RowKit
section
open Go
def gY(P:Program)(c:Code)(Q:Exit->Act->World->Prop):Nat->Act->World->Prop
 | 0,_,_=>False
 | n+1,a,w=>c.wp P (Exit.then (gY P c Q n) Q) a w
theorem bI{P:Program}{c:Code}{Q:Exit->Act->World->Prop}{n:Nat}{a:Act}{w:World}
  (h:c.wp P (Exit.then (gY P c Q n) Q) a w):gY P c Q (n+1) a w:=h
theorem tL{p:Nat->Prop}:∀ n,p n->∃ m,p m/\∀ k,p k->m<=k:=by
 intro n
 induction n using Nat.strongRecOn with
 | _ n ih=>
  intro h
  by_cases g:∃ k,k < n/\p k
  ·obtain⟨k,hk,hp⟩:=g
   exact ih k hk hp
  ·exact⟨n,h,fun k hk=>Nat.le_of_not_lt fun hlt=>g ⟨k,hlt,hk⟩⟩
open Classical in
noncomputable def gH (p:Nat->Prop):Nat:=if h:∃ m,p m/\∀ k,p k->m<=k then Classical.choose h else 0
theorem jB{p:Nat->Prop}{n:Nat}(h:p n):p (gH p)/\∀ k,p k->gH p<=k:=by
 have g:=tL n h
 unfold gH
 rw [dif_pos g]
 exact Classical.choose_spec g
theorem gD{P:Program}{c:Code}{Q:Exit->Act->World->Prop}(n:Nat){a:Act}{w:World}
  (h:gY P c Q n a w):(Code.loop c).wp P Q a w:=by
 refine wp_loop (fun a w=>∃ n,gY P c Q n a w) (fun a w=>gH fun n=>gY P c Q n a w) ⟨n,h⟩ ?_
 rintro a w ⟨n,hn⟩
 obtain⟨hs,-⟩:=jB (p:=fun n=>gY P c Q n a w) hn
 generalize gH (fun n=>gY P c Q n a w)=m at hs
 cases m with
 | zero=>exact hs.elim
 | succ m=>
  refine wp_mono (show c.wp P (Exit.then (gY P c Q m) Q) a w from hs) ?_
  intro e a' w' he
  cases e with
  | normal=>exact⟨⟨m,he⟩,Nat.lt_succ_of_le ((jB (p:=fun n=>gY P c Q n a' w') (n:=m) he).2 m he)⟩
  | exit id=>exact he
  | goto l=>exact he
  | ret=>exact he
  | panic ch=>exact he
  | outgrown=>exact he
end
abbrev cA:=BitVec 256
def aC(s:cA)(i:Nat):Int:=((s.extractLsb' (64 * i) 64).toNat:Int)
theorem tI(s:cA)(i:Nat):0<=aC s i/\aC s i < 18446744073709551616:=by
 unfold aC
 have:=(s.extractLsb' (64 * i) 64).isLt
 omega
theorem dI(s:cA)(i:Nat):BitVec.ofInt 64 (aC s i)=s.extractLsb' (64 * i) 64:=by
 unfold aC
 rw [BitVec.ofInt_natCast,BitVec.ofNat_toNat,BitVec.setWidth_eq]
theorem zC{s t:cA}(h0:aC s 0=aC t 0)(h1:aC s 1=aC t 1)(h2:aC s 2=aC t 2)(h3:aC s 3=aC t 3):s=t:=by
 have g:∀ i,aC s i=aC t i->s.extractLsb' (64 * i) 64=t.extractLsb' (64 * i) 64:=fun i h=>by
  unfold aC at h;exact BitVec.eq_of_toNat_eq (by omega)
 have k:∀ i,i < 4->s.extractLsb' (64 * i) 64=t.extractLsb' (64 * i) 64:=fun i hi=>by
  match i,hi with
  | 0,_=>exact g 0 h0
  | 1,_=>exact g 1 h1
  | 2,_=>exact g 2 h2
  | 3,_=>exact g 3 h3
 refine BitVec.eq_of_getLsbD_eq fun n hn=>?_
 have e:=congrArg (fun z=>z.getLsbD (n % 64)) (k (n / 64) (by omega))
 simp only [BitVec.getLsbD_extractLsb'] at e
 have hl:n % 64 < 64:=Nat.mod_lt _ (by decide)
 have hs:64 * (n / 64)+n % 64=n:=Nat.div_add_mod n 64
 simpa [hl,hs] using e
theorem oA(s:cA)(i:Nat)(x:BitVec 64)(h:∀ n,n < 64->s.getLsbD (64 * i+n)=x.getLsbD n):aC s i=(x.toNat:Int):=by
 have e:s.extractLsb' (64 * i) 64=x:=BitVec.eq_of_getLsbD_eq fun n hn=>by
  rw [BitVec.getLsbD_extractLsb'];simp [hn,h n hn]
 unfold aC;rw [e]
def aY(a b:cA):cA:=a ||| b
def rM(a b:cA):cA:=a &&& b
def bZ(a b:cA):cA:=a &&& ~~~b
def iM(a:cA):cA := ~~~a
def kZ(b:Int):cA:=if 0<=b/\b<=255 then BitVec.ofNat 256 (2 ^ b.toNat) else 0
def oC(n m:Int):Nat:=(min (max n 0) m).toNat
def cF(n:Int):cA:=BitVec.ofNat 256 (2 ^ oC n 256 - 1)
theorem zE(a b:cA)(i:Nat):(aY a b).extractLsb' (64 * i) 64=a.extractLsb' (64 * i) 64 ||| b.extractLsb' (64 * i) 64:=by
 unfold aY;refine BitVec.eq_of_getLsbD_eq fun n hn=>?_;simp [hn]
theorem vX(a b:cA)(i:Nat):(rM a b).extractLsb' (64 * i) 64=a.extractLsb' (64 * i) 64 &&& b.extractLsb' (64 * i) 64:=by
 unfold rM;refine BitVec.eq_of_getLsbD_eq fun n hn=>?_;simp [hn]
theorem tN(a b:cA)(i:Nat)(hi:i < 4):(bZ a b).extractLsb' (64 * i) 64=a.extractLsb' (64 * i) 64 &&& ~~~b.extractLsb' (64 * i) 64:=by
 unfold bZ;refine BitVec.eq_of_getLsbD_eq fun n hn=>?_;have h2:64 * i+n < 256:=by omega
 simp [hn,h2]
theorem vW(a:cA)(i:Nat)(hi:i < 4):(iM a).extractLsb' (64 * i) 64= ~~~a.extractLsb' (64 * i) 64:=by
 unfold iM;refine BitVec.eq_of_getLsbD_eq fun n hn=>?_;have h2:64 * i+n < 256:=by omega
 simp [hn,h2]
theorem nC(b:Int)(n:Nat):(kZ b).getLsbD n=decide (0<=b/\b<=255/\b=n):=by
 unfold kZ
 split
 ·rename_i h
  obtain⟨k,rfl⟩:=Int.eq_ofNat_of_zero_le h.1
  rw [BitVec.getLsbD_ofNat]
  simp only [Int.toNat_natCast,Nat.testBit_two_pow]
  rw [Bool.eq_iff_iff];simp;omega
 ·rename_i h
  simp;omega
theorem eJ(m:Int)(n:Nat):(cF m).getLsbD n=decide (n < 256/\(n:Int) < m):=by
 unfold cF oC
 rw [BitVec.getLsbD_ofNat,Nat.testBit_two_pow_sub_one,Bool.eq_iff_iff];simp;omega
theorem pV(s:cA)(i:Nat)(h:∀ n,n < 64->s.getLsbD (64 * i+n)=false):0=aC s i:=by
 rw [oA s i 0#64 (fun n hn=>by rw [h n hn];simp)];rfl
theorem eY(m:Int)(i:Nat)(h:m<=64 * i):0=aC (cF m) i:=
 pV _ _ fun n hn=>by rw [eJ];simp;omega
theorem pW(m:Int)(i k:Nat)(hi:i < 4)(h0:m=64 * i+k)(h1:k<=64):(2:Int) ^ k - 1=aC (cF m) i:=by
 have hle:2 ^ k<=2 ^ 64:=Nat.pow_le_pow_right (by decide) h1
 have hpos:0 < 2 ^ k:=Nat.pow_pos (by decide)
 rw [oA _ i (BitVec.ofNat 64 (2 ^ k - 1))]
 ·rw [BitVec.toNat_ofNat,Nat.mod_eq_of_lt (by omega),Int.ofNat_sub hpos];simp
 ·intro n hn
  rw [eJ,BitVec.getLsbD_ofNat,Nat.testBit_two_pow_sub_one,Bool.eq_iff_iff];simp;omega
theorem pX(m:Int)(i:Nat)(hi:i < 4)(h0:64 * i+64<=m):18446744073709551615=aC (cF m) i:=by
 rw [oA _ i (BitVec.allOnes 64)]
 ·rfl
 ·intro n hn
  rw [eJ,BitVec.getLsbD_allOnes,Bool.eq_iff_iff];simp;omega
section
open Go.RowKit
theorem gS(x0 fH fG fF:Value)(w:World):(Instr.index 36 (.agg #[x0,fH,fG,fF]) (.int .i64 0)).run Tryz.prog w=.ok x0 w:=by kernel_rfl
theorem gR(x0 fH fG fF:Value)(w:World):(Instr.index 36 (.agg #[x0,fH,fG,fF]) (.int .i64 1)).run Tryz.prog w=.ok fH w:=by kernel_rfl
theorem gQ(x0 fH fG fF:Value)(w:World):(Instr.index 36 (.agg #[x0,fH,fG,fF]) (.int .i64 2)).run Tryz.prog w=.ok fG w:=by kernel_rfl
theorem gP(x0 fH fG fF:Value)(w:World):(Instr.index 36 (.agg #[x0,fH,fG,fF]) (.int .i64 3)).run Tryz.prog w=.ok fF w:=by kernel_rfl
theorem eX(r:BitVec 64):IntKind.u64.wrap (r.toNat:Int)=(r.toNat:Int):=by
 have:=r.isLt
 simp [IntKind.wrap,IntKind.bits,IntKind.signed]
 omega
theorem vZ(a b:cA)(i:Nat):bits .or .u64 (aC a i) (aC b i)=aC (aY a b) i:=by
 show IntKind.u64.wrap ((BitVec.ofInt 64 (aC a i) ||| BitVec.ofInt 64 (aC b i)).toNat:Int)=_
 rw [dI,dI,eX,<- zE];rfl
theorem tO(a b:cA)(i:Nat):bits .and .u64 (aC a i) (aC b i)=aC (rM a b) i:=by
 show IntKind.u64.wrap ((BitVec.ofInt 64 (aC a i) &&& BitVec.ofInt 64 (aC b i)).toNat:Int)=_
 rw [dI,dI,eX,<- vX];rfl
theorem dF(a b:cA)(i:Nat)(hi:i < 4):bits .andNot .u64 (aC a i) (aC b i)=aC (bZ a b) i:=by
 show IntKind.u64.wrap ((BitVec.ofInt 64 (aC a i) &&& ~~~BitVec.ofInt 64 (aC b i)).toNat:Int)=_
 rw [dI,dI,eX,<- tN _ _ _ hi];rfl
theorem eI(a:cA)(i:Nat)(hi:i < 4):bits .xor .u64 IntKind.u64.max (aC a i)=aC (iM a) i:=by
 show IntKind.u64.wrap ((BitVec.ofInt 64 IntKind.u64.max ^^^ BitVec.ofInt 64 (aC a i)).toNat:Int)=_
 have e:BitVec.ofInt 64 IntKind.u64.max=BitVec.allOnes 64:=by decide
 rw [e,dI,eX,BitVec.allOnes_xor,<- vW _ _ hi];rfl
theorem nM(a b:cA):bits .andNot .u64 (aC a 0) (aC b 0)=aC (bZ a b) 0:=dF a b 0 (by decide)
theorem nL(a b:cA):bits .andNot .u64 (aC a 1) (aC b 1)=aC (bZ a b) 1:=dF a b 1 (by decide)
theorem nK(a b:cA):bits .andNot .u64 (aC a 2) (aC b 2)=aC (bZ a b) 2:=dF a b 2 (by decide)
theorem nJ(a b:cA):bits .andNot .u64 (aC a 3) (aC b 3)=aC (bZ a b) 3:=dF a b 3 (by decide)
theorem rU(a:cA):bits .xor .u64 IntKind.u64.max (aC a 0)=aC (iM a) 0:=eI a 0 (by decide)
theorem rT(a:cA):bits .xor .u64 IntKind.u64.max (aC a 1)=aC (iM a) 1:=eI a 1 (by decide)
theorem rS(a:cA):bits .xor .u64 IntKind.u64.max (aC a 2)=aC (iM a) 2:=eI a 2 (by decide)
theorem rR(a:cA):bits .xor .u64 IntKind.u64.max (aC a 3)=aC (iM a) 3:=eI a 3 (by decide)
theorem cD:IntKind.u64.signed=false:=rfl
end
section
open Go.RowKit
attribute [local go_sem] gS gR gQ gP vZ tO nM nL nK nJ rU rT rS rR cD
theorem jW(a b:cA)(w:World) :
  Calls Tryz.prog 86 #[.agg #[.int .u64 (aC (a) 0),.int .u64 (aC (a) 1),.int .u64 (aC (a) 2),.int .u64 (aC (a) 3)],.agg #[.int .u64 (aC (b) 0),.int .u64 (aC (b) 1),.int .u64 (aC (b) 2),.int .u64 (aC (b) 3)]] w fun e w'=>e=.returned (.agg #[.int .u64 (aC (aY a b) 0),.int .u64 (aC (aY a b) 1),.int .u64 (aC (aY a b) 2),.int .u64 (aC (aY a b) 3)])/\Below w.heap.size w w':=by
 go_enter Tryz.func86,Tryz.ntmps86
 go_wp2
 refine gD 5 ?_
 refine bI ?_
 go_wp2
 refine bI ?_
 go_wp2
 refine bI ?_
 go_wp2
 refine bI ?_
 go_wp2
 refine bI ?_
 go_wp2
 exact bodyPost_ret (v:=.agg #[.int .u64 (aC (aY a b) 0),.int .u64 (aC (aY a b) 1),.int .u64 (aC (aY a b) 2),.int .u64 (aC (aY a b) 3)]) (by simp [results,Tryz.results86,go_sem]) rfl ⟨rfl,(((Below.refl _ _).alloc (Nat.le_refl _) _).alloc (by simp) _).alloc (by simp;omega) _⟩
theorem tK(a b:cA)(w:World) :
  Calls Tryz.prog 178 #[.agg #[.int .u64 (aC (a) 0),.int .u64 (aC (a) 1),.int .u64 (aC (a) 2),.int .u64 (aC (a) 3)],.agg #[.int .u64 (aC (b) 0),.int .u64 (aC (b) 1),.int .u64 (aC (b) 2),.int .u64 (aC (b) 3)]] w fun e w'=>e=.returned (.agg #[.int .u64 (aC (bZ a b) 0),.int .u64 (aC (bZ a b) 1),.int .u64 (aC (bZ a b) 2),.int .u64 (aC (bZ a b) 3)])/\Below w.heap.size w w':=by
 go_enter Tryz.func178,Tryz.ntmps178
 go_wp2
 refine gD 5 ?_
 refine bI ?_
 go_wp2
 refine bI ?_
 go_wp2
 refine bI ?_
 go_wp2
 refine bI ?_
 go_wp2
 refine bI ?_
 go_wp2
 exact bodyPost_ret (v:=.agg #[.int .u64 (aC (bZ a b) 0),.int .u64 (aC (bZ a b) 1),.int .u64 (aC (bZ a b) 2),.int .u64 (aC (bZ a b) 3)]) (by simp [results,Tryz.results178,go_sem]) rfl ⟨rfl,(((Below.refl _ _).alloc (Nat.le_refl _) _).alloc (by simp) _).alloc (by simp;omega) _⟩
end
end Go.Proofs.YtjafnbjipgediaaGreatDoor
