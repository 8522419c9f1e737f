/-
  Parts of the proof.
-/
import Derived.Test.YtlaimbkenbijeaaGreatDoorTextsProofA0
import Derived.WalkKit
import Derived.Test.YtlaimbkenbijeaaGreatDoorProg
import Derived.WalkSpells
import Derived.WalkLawsBesides
set_option maxRecDepth 100000
set_option maxHeartbeats 8000000
namespace Go.Proofs.YtlaimbkenbijeaaGreatDoor
open Go Go.RowKit
section
open Go
def jL(P:Program)(c:Code)(Q:Exit->Act->World->Prop):Nat->Act->World->Prop
 | 0,_,_=>False
 | n+1,a,w=>c.wp P (Exit.then (jL P c Q n) Q) a w
theorem bV{P:Program}{c:Code}{Q:Exit->Act->World->Prop}{n:Nat}{a:Act}{w:World}
  (h:c.wp P (Exit.then (jL P c Q n) Q) a w):jL P c Q (n+1) a w:=h
theorem xS{p:Nat->Prop}:∀ n,p n->∃ m,p m/\∀ k,p k->m<=k:=by
 intro n
 induction n using Nat.strongRecOn with
 | _ n ih=>
  intro h
  by_cases g:∃ k,k < n/\p k
  ·obtain⟨k,hk,hp⟩:=g
   exact ih k hk hp
  ·exact⟨n,h,fun k hk=>Nat.le_of_not_lt fun hlt=>g ⟨k,hlt,hk⟩⟩
open Classical in
noncomputable def iP (p:Nat->Prop):Nat:=if h:∃ m,p m/\∀ k,p k->m<=k then Classical.choose h else 0
theorem lE{p:Nat->Prop}{n:Nat}(h:p n):p (iP p)/\∀ k,p k->iP p<=k:=by
 have g:=xS n h
 unfold iP
 rw [dif_pos g]
 exact Classical.choose_spec g
theorem iO{P:Program}{c:Code}{Q:Exit->Act->World->Prop}(n:Nat){a:Act}{w:World}
  (h:jL P c Q n a w):(Code.loop c).wp P Q a w:=by
 refine wp_loop (fun a w=>∃ n,jL P c Q n a w) (fun a w=>iP fun n=>jL P c Q n a w) ⟨n,h⟩ ?_
 rintro a w ⟨n,hn⟩
 obtain⟨hs,-⟩:=lE (p:=fun n=>jL P c Q n a w) hn
 generalize iP (fun n=>jL P c Q n a w)=m at hs
 cases m with
 | zero=>exact hs.elim
 | succ m=>
  refine wp_mono (show c.wp P (Exit.then (jL P c Q m) Q) a w from hs) ?_
  intro e a' w' he
  cases e with
  | normal=>exact⟨⟨m,he⟩,Nat.lt_succ_of_le ((lE (p:=fun n=>jL P c Q n a' w') (n:=m) he).2 m he)⟩
  | exit id=>exact he
  | goto l=>exact he
  | ret=>exact he
  | panic ch=>exact he
  | outgrown=>exact he
end
abbrev bO:=BitVec 256
def aC(s:bO)(i:Nat):Int:=((s.extractLsb' (64 * i) 64).toNat:Int)
theorem qF(s:bO)(i:Nat):0<=aC s i/\aC s i < 18446744073709551616:=by
 unfold aC
 have:=(s.extractLsb' (64 * i) 64).isLt
 omega
theorem eR(s:bO)(i:Nat):BitVec.ofInt 64 (aC s i)=s.extractLsb' (64 * i) 64:=by
 unfold aC
 rw [BitVec.ofInt_natCast,BitVec.ofNat_toNat,BitVec.setWidth_eq]
theorem aL7{s t:bO}(h0:aC s 0=aC t 0)(h1:aC s 1=aC t 1)(h2:aC s 2=aC t 2)(h3:aC s 3=aC t 3):s=t:=by
 have g:∀ i,aC s i=aC t i->s.extractLsb' (64 * i) 64=t.extractLsb' (64 * i) 64:=fun i h=>by
  unfold aC at h;exact BitVec.eq_of_toNat_eq (by omega)
 have k:∀ i,i < 4->s.extractLsb' (64 * i) 64=t.extractLsb' (64 * i) 64:=fun i hi=>by
  match i,hi with
  | 0,_=>exact g 0 h0
  | 1,_=>exact g 1 h1
  | 2,_=>exact g 2 h2
  | 3,_=>exact g 3 h3
 refine BitVec.eq_of_getLsbD_eq fun n hn=>?_
 have e:=congrArg (fun z=>z.getLsbD (n % 64)) (k (n / 64) (by omega))
 simp only [BitVec.getLsbD_extractLsb'] at e
 have hl:n % 64 < 64:=Nat.mod_lt _ (by decide)
 have hs:64 * (n / 64)+n % 64=n:=Nat.div_add_mod n 64
 simpa [hl,hs] using e
theorem nV(s:bO)(i:Nat)(x:BitVec 64)(h:∀ n,n < 64->s.getLsbD (64 * i+n)=x.getLsbD n):aC s i=(x.toNat:Int):=by
 have e:s.extractLsb' (64 * i) 64=x:=BitVec.eq_of_getLsbD_eq fun n hn=>by
  rw [BitVec.getLsbD_extractLsb'];simp [hn,h n hn]
 unfold aC;rw [e]
def aN(a b:bO):bO:=a ||| b
def vO(a b:bO):bO:=a &&& b
def bU(a b:bO):bO:=a &&& ~~~b
def kI(a:bO):bO := ~~~a
def aX(b:Int):bO:=if 0<=b/\b<=255 then BitVec.ofNat 256 (2 ^ b.toNat) else 0
def rQ(n m:Int):Nat:=(min (max n 0) m).toNat
def cW(n:Int):bO:=BitVec.ofNat 256 (2 ^ rQ n 256 - 1)
theorem aM1(a b:bO)(i:Nat):(aN a b).extractLsb' (64 * i) 64=a.extractLsb' (64 * i) 64 ||| b.extractLsb' (64 * i) 64:=by
 unfold aN;refine BitVec.eq_of_getLsbD_eq fun n hn=>?_;simp [hn]
theorem aB5(a b:bO)(i:Nat):(vO a b).extractLsb' (64 * i) 64=a.extractLsb' (64 * i) 64 &&& b.extractLsb' (64 * i) 64:=by
 unfold vO;refine BitVec.eq_of_getLsbD_eq fun n hn=>?_;simp [hn]
theorem xU(a b:bO)(i:Nat)(hi:i < 4):(bU a b).extractLsb' (64 * i) 64=a.extractLsb' (64 * i) 64 &&& ~~~b.extractLsb' (64 * i) 64:=by
 unfold bU;refine BitVec.eq_of_getLsbD_eq fun n hn=>?_;have h2:64 * i+n < 256:=by omega
 simp [hn,h2]
theorem aB4(a:bO)(i:Nat)(hi:i < 4):(kI a).extractLsb' (64 * i) 64= ~~~a.extractLsb' (64 * i) 64:=by
 unfold kI;refine BitVec.eq_of_getLsbD_eq fun n hn=>?_;have h2:64 * i+n < 256:=by omega
 simp [hn,h2]
theorem eS(b:Int)(n:Nat):(aX b).getLsbD n=decide (0<=b/\b<=255/\b=n):=by
 unfold aX
 split
 ·rename_i h
  obtain⟨k,rfl⟩:=Int.eq_ofNat_of_zero_le h.1
  rw [BitVec.getLsbD_ofNat]
  simp only [aBF,Nat.testBit_two_pow]
  rw [aBD];simp;omega
 ·rename_i h
  simp;omega
theorem fX(m:Int)(n:Nat):(cW m).getLsbD n=decide (n < 256/\(n:Int) < m):=by
 unfold cW rQ
 rw [BitVec.getLsbD_ofNat,Nat.testBit_two_pow_sub_one,aBD];simp;omega
theorem tP(s:bO)(i:Nat)(h:∀ n,n < 64->s.getLsbD (64 * i+n)=false):0=aC s i:=by
 rw [nV s i 0#64 (fun n hn=>by rw [h n hn];simp)];rfl
theorem gR(m:Int)(i:Nat)(h:m<=64 * i):0=aC (cW m) i:=
 tP _ _ fun n hn=>by rw [fX];simp;omega
theorem tR(m:Int)(i k:Nat)(hi:i < 4)(h0:m=64 * i+k)(h1:k<=64):(2:Int) ^ k - 1=aC (cW m) i:=by
 have hle:2 ^ k<=2 ^ 64:=Nat.pow_le_pow_right (by decide) h1
 have hpos:0 < 2 ^ k:=Nat.pow_pos (by decide)
 rw [nV _ i (BitVec.ofNat 64 (2 ^ k - 1))]
 ·rw [BitVec.toNat_ofNat,Nat.mod_eq_of_lt (by omega),Int.ofNat_sub hpos];simp
 ·intro n hn
  rw [fX,BitVec.getLsbD_ofNat,Nat.testBit_two_pow_sub_one,aBD];simp;omega
theorem tS(m:Int)(i:Nat)(hi:i < 4)(h0:64 * i+64<=m):18446744073709551615=aC (cW m) i:=by
 rw [nV _ i (BitVec.allOnes 64)]
 ·rfl
 ·intro n hn
  rw [fX,BitVec.getLsbD_allOnes,aBD];simp;omega
section
open Go.RowKit
theorem jC(x0 gX gW gV:Value)(w:World):(Instr.index 36 (.agg #[x0,gX,gW,gV]) (.int .i64 0)).run Tryz.prog w=.ok x0 w:=by kernel_rfl
theorem jB(x0 gX gW gV:Value)(w:World):(Instr.index 36 (.agg #[x0,gX,gW,gV]) (.int .i64 1)).run Tryz.prog w=.ok gX w:=by kernel_rfl
theorem jA(x0 gX gW gV:Value)(w:World):(Instr.index 36 (.agg #[x0,gX,gW,gV]) (.int .i64 2)).run Tryz.prog w=.ok gW w:=by kernel_rfl
theorem iZ(x0 gX gW gV:Value)(w:World):(Instr.index 36 (.agg #[x0,gX,gW,gV]) (.int .i64 3)).run Tryz.prog w=.ok gV w:=by kernel_rfl
theorem fH(r:BitVec 64):IntKind.u64.wrap (r.toNat:Int)=(r.toNat:Int):=by
 have:=r.isLt
 simp [IntKind.wrap,IntKind.bits,IntKind.signed]
 omega
theorem aB8(a b:bO)(i:Nat):bits .or .u64 (aC a i) (aC b i)=aC (aN a b) i:=by
 show IntKind.u64.wrap ((BitVec.ofInt 64 (aC a i) ||| BitVec.ofInt 64 (aC b i)).toNat:Int)=_
 rw [eR,eR,fH,<- aM1];rfl
theorem xY(a b:bO)(i:Nat):bits .and .u64 (aC a i) (aC b i)=aC (vO a b) i:=by
 show IntKind.u64.wrap ((BitVec.ofInt 64 (aC a i) &&& BitVec.ofInt 64 (aC b i)).toNat:Int)=_
 rw [eR,eR,fH,<- aB5];rfl
theorem eL(a b:bO)(i:Nat)(hi:i < 4):bits .andNot .u64 (aC a i) (aC b i)=aC (bU a b) i:=by
 show IntKind.u64.wrap ((BitVec.ofInt 64 (aC a i) &&& ~~~BitVec.ofInt 64 (aC b i)).toNat:Int)=_
 rw [eR,eR,fH,<- xU _ _ _ hi];rfl
theorem fW(a:bO)(i:Nat)(hi:i < 4):bits .xor .u64 IntKind.u64.max (aC a i)=aC (kI a) i:=by
 show IntKind.u64.wrap ((BitVec.ofInt 64 IntKind.u64.max ^^^ BitVec.ofInt 64 (aC a i)).toNat:Int)=_
 have e:BitVec.ofInt 64 IntKind.u64.max=BitVec.allOnes 64:=by decide
 rw [e,eR,fH,BitVec.allOnes_xor,<- aB4 _ _ hi];rfl
theorem qW(a b:bO):bits .andNot .u64 (aC a 0) (aC b 0)=aC (bU a b) 0:=eL a b 0 (by decide)
theorem qV(a b:bO):bits .andNot .u64 (aC a 1) (aC b 1)=aC (bU a b) 1:=eL a b 1 (by decide)
theorem qU(a b:bO):bits .andNot .u64 (aC a 2) (aC b 2)=aC (bU a b) 2:=eL a b 2 (by decide)
theorem qT(a b:bO):bits .andNot .u64 (aC a 3) (aC b 3)=aC (bU a b) 3:=eL a b 3 (by decide)
theorem wA(a:bO):bits .xor .u64 IntKind.u64.max (aC a 0)=aC (kI a) 0:=fW a 0 (by decide)
theorem vZ(a:bO):bits .xor .u64 IntKind.u64.max (aC a 1)=aC (kI a) 1:=fW a 1 (by decide)
theorem vY(a:bO):bits .xor .u64 IntKind.u64.max (aC a 2)=aC (kI a) 2:=fW a 2 (by decide)
theorem vX(a:bO):bits .xor .u64 IntKind.u64.max (aC a 3)=aC (kI a) 3:=fW a 3 (by decide)
theorem bT:IntKind.u64.signed=false:=rfl
end
section
open Go.RowKit
attribute [local go_sem] jC jB jA iZ aB8 xY qW qV qU qT wA vZ vY vX bT
theorem mK(a b:bO)(w:World) :
  Calls Tryz.prog 86 #[.agg #[.int .u64 (aC (a) 0),.int .u64 (aC (a) 1),.int .u64 (aC (a) 2),.int .u64 (aC (a) 3)],.agg #[.int .u64 (aC (b) 0),.int .u64 (aC (b) 1),.int .u64 (aC (b) 2),.int .u64 (aC (b) 3)]] w fun e w'=>e=.returned (.agg #[.int .u64 (aC (aN a b) 0),.int .u64 (aC (aN a b) 1),.int .u64 (aC (aN a b) 2),.int .u64 (aC (aN a b) 3)])/\Below w.heap.size w w':=by
 go_enter Tryz.func86,Tryz.ntmps86
 go_wp2
 refine iO 5 ?_
 refine bV ?_
 go_wp2
 refine bV ?_
 go_wp2
 refine bV ?_
 go_wp2
 refine bV ?_
 go_wp2
 refine bV ?_
 go_wp2
 exact bodyPost_ret (v:=.agg #[.int .u64 (aC (aN a b) 0),.int .u64 (aC (aN a b) 1),.int .u64 (aC (aN a b) 2),.int .u64 (aC (aN a b) 3)]) (by simp [results,Tryz.results86,go_sem]) rfl ⟨rfl,(((Below.refl _ _).alloc (n8 _) _).alloc (by simp) _).alloc (by simp;omega) _⟩
theorem xR(a b:bO)(w:World) :
  Calls Tryz.prog 178 #[.agg #[.int .u64 (aC (a) 0),.int .u64 (aC (a) 1),.int .u64 (aC (a) 2),.int .u64 (aC (a) 3)],.agg #[.int .u64 (aC (b) 0),.int .u64 (aC (b) 1),.int .u64 (aC (b) 2),.int .u64 (aC (b) 3)]] w fun e w'=>e=.returned (.agg #[.int .u64 (aC (bU a b) 0),.int .u64 (aC (bU a b) 1),.int .u64 (aC (bU a b) 2),.int .u64 (aC (bU a b) 3)])/\Below w.heap.size w w':=by
 go_enter Tryz.func178,Tryz.ntmps178
 go_wp2
 refine iO 5 ?_
 refine bV ?_
 go_wp2
 refine bV ?_
 go_wp2
 refine bV ?_
 go_wp2
 refine bV ?_
 go_wp2
 refine bV ?_
 go_wp2
 exact bodyPost_ret (v:=.agg #[.int .u64 (aC (bU a b) 0),.int .u64 (aC (bU a b) 1),.int .u64 (aC (bU a b) 2),.int .u64 (aC (bU a b) 3)]) (by simp [results,Tryz.results178,go_sem]) rfl ⟨rfl,(((Below.refl _ _).alloc (n8 _) _).alloc (by simp) _).alloc (by simp;omega) _⟩
end
end Go.Proofs.YtlaimbkenbijeaaGreatDoor
