/-
  Parts of the proof.
-/
import Derived.Test.YtliflleaeimngaaLongestProofNA0
import Derived.WalkKit
import Derived.Test.YtliflleaeimngaaProg
import Derived.WalkSpells
import Derived.WalkLawsBesides
set_option linter.unusedSimpArgs false
set_option maxRecDepth 100000
set_option maxHeartbeats 8000000
namespace Go.Proofs.Ytliflleaeimngaa
open Go Go.RowKit
section
open Go
def cQ(P:Program)(c:Code)(Q:Exit->Act->World->Prop):Nat->Act->World->Prop
 | 0,_,_=>False
 | n+1,a,w=>c.wp P (Exit.then (cQ P c Q n) Q) a w
theorem cF{P:Program}{c:Code}{Q:Exit->Act->World->Prop}{n:Nat}{a:Act}{w:World}
  (h:c.wp P (Exit.then (cQ P c Q n) Q) a w):cQ P c Q (n+1) a w:=h
theorem gD{p:Nat->Prop}:∀ n,p n->∃ m,p m/\∀ k,p k->m<=k:=by
 intro n
 induction n using Nat.strongRecOn with
 | _ n ih=>
  intro h
  by_cases g:∃ k,k<n/\p k
  ·obtain⟨k,hk,hp⟩:=g
   exact ih k hk hp
  ·exact⟨n,h,fun k hk=>Nat.le_of_not_lt fun hlt=>g ⟨k,hlt,hk⟩⟩
open Classical in
noncomputable def cO (p:Nat->Prop):Nat:=if h:∃ m,p m/\∀ k,p k->m<=k then Classical.choose h else 0
theorem cU{p:Nat->Prop}{n:Nat}(h:p n):p (cO p)/\∀ k,p k->cO p<=k:=by
 have g:=gD n h
 unfold cO
 rw [dif_pos g]
 exact Classical.choose_spec g
theorem eF{P:Program}{c:Code}{Q:Exit->Act->World->Prop}(n:Nat){a:Act}{w:World}
  (h:cQ P c Q n a w):(Code.loop c).wp P Q a w:=by
 refine wp_loop (fun a w=>∃ n,cQ P c Q n a w) (fun a w=>cO fun n=>cQ P c Q n a w) ⟨n,h⟩ ?_
 rintro a w ⟨n,hn⟩
 obtain⟨hs,-⟩:=cU (p:=fun n=>cQ P c Q n a w) hn
 generalize cO (fun n=>cQ P c Q n a w)=m at hs
 cases m with
 | zero=>exact hs.elim
 | succ m=>
  refine wp_mono (show c.wp P (Exit.then (cQ P c Q m) Q) a w from hs) ?_
  intro e a' w' he
  cases e with
  | normal=>exact⟨⟨m,he⟩,Nat.lt_succ_of_le ((cU (p:=fun n=>cQ P c Q n a' w') (n:=m) he).2 m he)⟩
  | exit id=>exact he
  | goto l=>exact he
  | ret=>exact he
  | panic ch=>exact he
  | outgrown=>exact he
end
abbrev bH:=BitVec 256
def aB(s:bH)(i:Nat):Int:=((s.extractLsb' (64*i) 64).toNat:Int)
theorem fZ(s:bH)(i:Nat):0<=aB s i/\aB s i<18446744073709551616:=by
 unfold aB
 have:=(s.extractLsb' (64*i) 64).isLt
 omega
theorem bQ(s:bH)(i:Nat):BitVec.ofInt 64 (aB s i)=s.extractLsb' (64*i) 64:=by
 unfold aB
 rw [BitVec.ofInt_natCast,BitVec.ofNat_toNat,BitVec.setWidth_eq]
theorem lF{s t:bH}(h0:aB s 0=aB t 0)(h1:aB s 1=aB t 1)(h2:aB s 2=aB t 2)(h3:aB s 3=aB t 3):s=t:=by
 have g:∀ i,aB s i=aB t i->s.extractLsb' (64*i) 64=t.extractLsb' (64*i) 64:=fun i h=>by
  unfold aB at h;exact BitVec.eq_of_toNat_eq (by omega)
 have k:∀ i,i<4->s.extractLsb' (64*i) 64=t.extractLsb' (64*i) 64:=fun i hi=>by
  match i,hi with
  | 0,_=>exact g 0 h0
  | 1,_=>exact g 1 h1
  | 2,_=>exact g 2 h2
  | 3,_=>exact g 3 h3
 refine BitVec.eq_of_getLsbD_eq fun n hn=>?_
 have e:=congrArg (fun z=>z.getLsbD (n%64)) (k (n/64) (by omega))
 simp only [BitVec.getLsbD_extractLsb'] at e
 have hl:n%64<64:=Nat.mod_lt _ (by decide)
 have hs:64*(n/64)+n%64=n:=Nat.div_add_mod n 64
 simpa [hl,hs] using e
theorem gA(s:bH)(i:Nat)(x:BitVec 64)(h:∀ n,n<64->s.getLsbD (64*i+n)=x.getLsbD n):aB s i=(x.toNat:Int):=by
 have e:s.extractLsb' (64*i) 64=x:=BitVec.eq_of_getLsbD_eq fun n hn=>by
  rw [BitVec.getLsbD_extractLsb'];simp [hn,h n hn]
 unfold aB;rw [e]
theorem pE(x0 z1_x1 z1_x2 z1_x3:Int)(a0:0<=x0)(b0:x0<18446744073709551616)(a1:0<=z1_x1)(z1_b1:z1_x1<18446744073709551616)
  (a2:0<=z1_x2) (z1_b2:z1_x2<18446744073709551616) (a3:0<=z1_x3) (z1_b3:z1_x3<18446744073709551616) :
  ∃ s:bH,x0=aB s 0/\z1_x1=aB s 1/\z1_x2=aB s 2/\z1_x3=aB s 3:=by
 obtain⟨y0,rfl⟩:=l6 a0
 obtain⟨y1,rfl⟩:=l6 a1
 obtain⟨y2,rfl⟩:=l6 a2
 obtain⟨y3,rfl⟩:=l6 a3
 obtain⟨N,hN⟩:∃ N:Nat,N=y0+18446744073709551616*(y1+18446744073709551616*(y2+18446744073709551616*y3)):=⟨_,rfl⟩
 have hlt:N<2 ^ 256:=by
  have:(2:Nat) ^ 256=18446744073709551616*(18446744073709551616*(18446744073709551616*18446744073709551616)):=by decide
  rw [this];omega
 have w:∀ i,aB (BitVec.ofNat 256 N) i=((N/2 ^ (64*i)%18446744073709551616:Nat):Int):=fun i=>by
  unfold aB
  rw [BitVec.extractLsb'_toNat,BitVec.toNat_ofNat,Nat.mod_eq_of_lt hlt,Nat.shiftRight_eq_div_pow]
 have d1:N/18446744073709551616=y1+18446744073709551616*(y2+18446744073709551616*y3):=by omega
 have d2:N/18446744073709551616/18446744073709551616=y2+18446744073709551616*y3:=by omega
 have d3:N/18446744073709551616/18446744073709551616/18446744073709551616=y3:=by omega
 refine⟨BitVec.ofNat 256 N,?_,?_,?_,?_⟩
 ·rw [w 0];simp;omega
 ·rw [w 1,show (2:Nat) ^ (64*1)=18446744073709551616 by decide,d1];omega
 ·rw [w 2,show (2:Nat) ^ (64*2)=18446744073709551616*18446744073709551616 by decide,<- Nat.div_div_eq_div_mul,d2];omega
 ·rw [w 3,show (2:Nat) ^ (64*3)=18446744073709551616*18446744073709551616*18446744073709551616 by decide,<- Nat.div_div_eq_div_mul,<- Nat.div_div_eq_div_mul,d3];omega
def iJ(a b:bH):bH:=a ||| b
def bE(a b:bH):bH:=a &&& b
def cN(a b:bH):bH:=a &&& ~~~b
def cS(a:bH):bH := ~~~a
def aP(b:Int):bH:=if 0<=b/\b<=255 then BitVec.ofNat 256 (2 ^ b.toNat) else 0
theorem lG(a b:bH)(i:Nat):(iJ a b).extractLsb' (64*i) 64=a.extractLsb' (64*i) 64 ||| b.extractLsb' (64*i) 64:=by
 unfold iJ;refine BitVec.eq_of_getLsbD_eq fun n hn=>?_;simp [hn]
theorem iM(a b:bH)(i:Nat):(bE a b).extractLsb' (64*i) 64=a.extractLsb' (64*i) 64 &&& b.extractLsb' (64*i) 64:=by
 unfold bE;refine BitVec.eq_of_getLsbD_eq fun n hn=>?_;simp [hn]
theorem gE(a b:bH)(i:Nat)(hi:i<4):(cN a b).extractLsb' (64*i) 64=a.extractLsb' (64*i) 64 &&& ~~~b.extractLsb' (64*i) 64:=by
 unfold cN;refine BitVec.eq_of_getLsbD_eq fun n hn=>?_;have h2:64*i+n<256:=by omega
 simp [hn,h2]
theorem iL(a:bH)(i:Nat)(hi:i<4):(cS a).extractLsb' (64*i) 64= ~~~a.extractLsb' (64*i) 64:=by
 unfold cS;refine BitVec.eq_of_getLsbD_eq fun n hn=>?_;have h2:64*i+n<256:=by omega
 simp [hn,h2]
theorem cX(b:Int)(n:Nat):(aP b).getLsbD n=decide (0<=b/\b<=255/\b=n):=by
 unfold aP
 split
 ·rename_i h
  obtain⟨k,rfl⟩:=l6 h.1
  rw [BitVec.getLsbD_ofNat]
  simp only [k4,Nat.testBit_two_pow]
  rw [Bool.eq_iff_iff];simp;omega
 ·rename_i h
  simp;omega
theorem eU(s:bH)(i:Nat)(h:∀ n,n<64->s.getLsbD (64*i+n)=false):0=aB s i:=by
 rw [gA s i 0#64 (fun n hn=>by rw [h n hn];simp)];rfl
theorem aJ(b:Int)(i:Nat)(h:b<64*i\/64*i+64<=b\/b<0\/255<b):0=aB (aP b) i:=
 eU _ _ fun n hn=>by rw [cX];simp;omega
theorem gB(b:Int)(i:Nat)(h0:64*i<=b)(h1:b<64*i+64)(h2:i<4):(2:Int) ^ (b%64).toNat=aB (aP b) i:=by
 obtain⟨k,rfl⟩:=l6 (show 0<=b by omega)
 have hk:((k:Int)%64).toNat=k%64:=by omega
 have hl:k%64<64:=Nat.mod_lt _ (by decide)
 have hlt:2 ^ (k%64)<2 ^ 64:=Nat.pow_lt_pow_right (by decide) hl
 rw [hk,gA _ i (BitVec.ofNat 64 (2 ^ (k%64)))]
 ·rw [BitVec.toNat_ofNat,Nat.mod_eq_of_lt hlt];simp
 ·intro n hn
  rw [cX,BitVec.getLsbD_ofNat,Nat.testBit_two_pow,Bool.eq_iff_iff];simp;omega
section
open Go.RowKit
theorem fM(x0 z1_x1 z1_x2 z1_x3:Value)(w:World):(Instr.index 45 (.agg #[x0,z1_x1,z1_x2,z1_x3]) (.int .i64 0)).run Try.prog w=.ok x0 w:=by kernel_rfl
theorem fL(x0 z1_x1 z1_x2 z1_x3:Value)(w:World):(Instr.index 45 (.agg #[x0,z1_x1,z1_x2,z1_x3]) (.int .i64 1)).run Try.prog w=.ok z1_x1 w:=by kernel_rfl
theorem fK(x0 z1_x1 z1_x2 z1_x3:Value)(w:World):(Instr.index 45 (.agg #[x0,z1_x1,z1_x2,z1_x3]) (.int .i64 2)).run Try.prog w=.ok z1_x2 w:=by kernel_rfl
theorem fJ(x0 z1_x1 z1_x2 z1_x3:Value)(w:World):(Instr.index 45 (.agg #[x0,z1_x1,z1_x2,z1_x3]) (.int .i64 3)).run Try.prog w=.ok z1_x3 w:=by kernel_rfl
theorem cE(r:BitVec 64):IntKind.u64.wrap (r.toNat:Int)=(r.toNat:Int):=by
 have:=r.isLt
 simp [IntKind.wrap,IntKind.bits,IntKind.signed]
 omega
theorem iN(a b:bH)(i:Nat):bits .or .u64 (aB a i) (aB b i)=aB (iJ a b) i:=by
 show IntKind.u64.wrap ((BitVec.ofInt 64 (aB a i) ||| BitVec.ofInt 64 (aB b i)).toNat:Int)=_
 rw [bQ,bQ,cE,<- lG];rfl
theorem gG(a b:bH)(i:Nat):bits .and .u64 (aB a i) (aB b i)=aB (bE a b) i:=by
 show IntKind.u64.wrap ((BitVec.ofInt 64 (aB a i) &&& BitVec.ofInt 64 (aB b i)).toNat:Int)=_
 rw [bQ,bQ,cE,<- iM];rfl
theorem bP(a b:bH)(i:Nat)(hi:i<4):bits .andNot .u64 (aB a i) (aB b i)=aB (cN a b) i:=by
 show IntKind.u64.wrap ((BitVec.ofInt 64 (aB a i) &&& ~~~BitVec.ofInt 64 (aB b i)).toNat:Int)=_
 rw [bQ,bQ,cE,<- gE _ _ _ hi];rfl
theorem bY(a:bH)(i:Nat)(hi:i<4):bits .xor .u64 IntKind.u64.max (aB a i)=aB (cS a) i:=by
 show IntKind.u64.wrap ((BitVec.ofInt 64 IntKind.u64.max ^^^ BitVec.ofInt 64 (aB a i)).toNat:Int)=_
 have e:BitVec.ofInt 64 IntKind.u64.max=BitVec.allOnes 64:=by decide
 rw [e,bQ,cE,BitVec.allOnes_xor,<- iL _ _ hi];rfl
theorem eB(a b:bH):bits .andNot .u64 (aB a 0) (aB b 0)=aB (cN a b) 0:=bP a b 0 (by decide)
theorem eA(a b:bH):bits .andNot .u64 (aB a 1) (aB b 1)=aB (cN a b) 1:=bP a b 1 (by decide)
theorem dZ(a b:bH):bits .andNot .u64 (aB a 2) (aB b 2)=aB (cN a b) 2:=bP a b 2 (by decide)
theorem dY(a b:bH):bits .andNot .u64 (aB a 3) (aB b 3)=aB (cN a b) 3:=bP a b 3 (by decide)
theorem fQ(a:bH):bits .xor .u64 IntKind.u64.max (aB a 0)=aB (cS a) 0:=bY a 0 (by decide)
theorem fP(a:bH):bits .xor .u64 IntKind.u64.max (aB a 1)=aB (cS a) 1:=bY a 1 (by decide)
theorem fO(a:bH):bits .xor .u64 IntKind.u64.max (aB a 2)=aB (cS a) 2:=bY a 2 (by decide)
theorem fN(a:bH):bits .xor .u64 IntKind.u64.max (aB a 3)=aB (cS a) 3:=bY a 3 (by decide)
theorem cR:IntKind.u64.signed=false:=rfl
end
theorem aQ:Try.prog.eqGuardType Try.prog.depth 45=false:=by kernel_rfl
theorem eV(x0 z1_x1 z1_x2 z1_x3 y0 y1 y2 y3:Int)(w:World) :
  (Op.equalIn 10000 45 (.agg #[.int .u64 x0,.int .u64 z1_x1,.int .u64 z1_x2,.int .u64 z1_x3]) (.agg #[.int .u64 y0,.int .u64 y1,.int .u64 y2,.int .u64 y3])).run Try.prog w
   = .ok (x0==y0&&z1_x1==y1&&z1_x2==y2&&z1_x3==y3) w:=by
 have u22:=Try.underlying43
 have a22:=Try.isAgg43
 have z22:=Try.sizeOf43
 have hu:Try.prog.underlying 45=some (.array 4 43):=by kernel_rfl
 rw [show (10000:Nat)=9999+1 from rfl,Op.equalIn]
 simp only [Sem.run_bind,run_underlying hu,Result.andThen_ok]
 simp only [Std.Legacy.Range.forIn_eq_forIn_range',Std.Legacy.Range.size,Nat.sub_zero,Nat.add_sub_cancel,Nat.div_one,List.range'_succ,List.range'_zero,List.forIn_cons,List.forIn_nil]
 go_simp
 by_cases h0:x0=y0 <;> by_cases h1:z1_x1=y1 <;> by_cases h2:z1_x2=y2 <;> by_cases h3:z1_x3=y3 <;> simp [h0,h1,h2,h3]
theorem eZ(a b:bH):(aB a 0==aB b 0&&aB a 1==aB b 1&&aB a 2==aB b 2&&aB a 3==aB b 3)=decide (a=b):=by
 by_cases h:a=b
 ·subst h;simp
 ·rw [j5 h,Bool.eq_false_iff]
  intro g
  simp at g
  exact h (lF g.1.1.1 g.1.1.2 g.1.2 g.2)
theorem dV(a b:bH)(w:World):(Op.equalIn 10000 45 (.agg #[.int .u64 (aB (a) 0),.int .u64 (aB (a) 1),.int .u64 (aB (a) 2),.int .u64 (aB (a) 3)]) (.agg #[.int .u64 (aB (b) 0),.int .u64 (aB (b) 1),.int .u64 (aB (b) 2),.int .u64 (aB (b) 3)])).run Try.prog w=.ok (decide (a=b)) w:=by
 rw [eV,eZ]
theorem bG(i:Nat):aB (0#256) i=0:=by simp [aB]
theorem aM(a:bH)(w:World):(Op.equalIn 10000 45 (.agg #[.int .u64 (aB (a) 0),.int .u64 (aB (a) 1),.int .u64 (aB (a) 2),.int .u64 (aB (a) 3)]) (.agg #[.int .u64 0,.int .u64 0,.int .u64 0,.int .u64 0])).run Try.prog w=.ok (decide (a=0#256)) w:=by
 have:=dV a (0#256) w
 rwa [bG,bG,bG,bG] at this
section
open Go.RowKit
attribute [local go_sem] fM fL fK fJ iN gG eB eA dZ dY fQ fP fO fN cR
theorem iO(a b:bH)(w:World) :
  Calls Try.prog 50 #[.agg #[.int .u64 (aB (a) 0),.int .u64 (aB (a) 1),.int .u64 (aB (a) 2),.int .u64 (aB (a) 3)],.agg #[.int .u64 (aB (b) 0),.int .u64 (aB (b) 1),.int .u64 (aB (b) 2),.int .u64 (aB (b) 3)]] w fun e w'=>e=.returned (.agg #[.int .u64 (aB (bE a b) 0),.int .u64 (aB (bE a b) 1),.int .u64 (aB (bE a b) 2),.int .u64 (aB (bE a b) 3)])/\Below w.heap.size w w':=by
 go_enter Try.func50,Try.ntmps50
 go_wp2
 refine eF 5 ?_
 refine cF ?_
 go_wp2
 refine cF ?_
 go_wp2
 refine cF ?_
 go_wp2
 refine cF ?_
 go_wp2
 refine cF ?_
 go_wp2
 exact bodyPost_ret (v:=.agg #[.int .u64 (aB (bE a b) 0),.int .u64 (aB (bE a b) 1),.int .u64 (aB (bE a b) 2),.int .u64 (aB (bE a b) 3)]) (by simp [results,Try.results50,go_sem]) rfl ⟨rfl,(((Below.refl _ _).alloc (k9 _) _).alloc (by simp) _).alloc (by simp;omega) _⟩
end
end Go.Proofs.Ytliflleaeimngaa
