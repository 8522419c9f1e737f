/-
  Parts of the proof.
-/
import Derived.Test.YtlaimbkenbijeaaGreatDoorTextsProofA0
import Derived.Test.YtlaimbkenbijeaaGreatDoorTextsProofA1
import Derived.Test.YtlaimbkenbijeaaGreatDoorTextsProofB31
import Derived.Test.YtlaimbkenbijeaaGreatDoorTextsProofB12
import Derived.Test.YtlaimbkenbijeaaGreatDoorTextsProofB16
import Derived.Laws.MakeOwn
set_option maxRecDepth 100000
set_option maxHeartbeats 8000000
namespace Go.Proofs.YtlaimbkenbijeaaGreatDoor
open Go Go.RowKit
section
attribute [local go_sem] bB
theorem mQ{base:Nat}{w:World}{v:Value}{A B:List (Int × Int)}(e:A=B)(h:RR base w v A):RR base w v B:=e ▸ h
theorem lQ{w:World}{v:Value}{L:List (Int × Int)}(h:ArgR w v L)(hF:Fit L)(hl:L.length+1<=8796093022208) :
  Calls Tryz.prog 117 #[v] w (xG w (In L) L.length):=by
 obtain⟨t0,ti,hz0,hz1,hz2⟩:=bH cY
 have H:Hid (ArgR w v L/\Fit L):=⟨h,hF⟩
 clear h hF
 go_enter Tryz.func117,Tryz.ntmps117
 go_wp2_with (go_at_call 143;refine(aT1 L.length w v L lz9 hl H.out.1 H.out.2).mono ?_;rintro e w5 ⟨v5,S,rfl,h1,h2,h3,h4,h5,h6⟩;obtain⟨qs,cs,rfl⟩:=h1.shape;have X5:Hid (RR w.heap.size w5 (.slice qs S.length cs) S/\Srt S/\Fit S/\(∀ c,In S c ↔ In L c)/\S.length<=L.length/\Below w.heap.size w w5):=⟨h1,h2,h3,h4,h5,h6⟩;clear h1 h2 h3 h4 h5 h6)
 rename World=>W1
 have hsl:=X5.out.2.2.2.2.1
 have HC:Hid (∀ (i:Nat) (r:Int × Int),S[i]?=some r->∃ g off,qs=some ⟨g,off,none⟩/\g < W1.heap.size/\W1.cell? ⟨g,off+2 * i,none⟩=some (.int .i64 r.1)/\W1.cell? ⟨g,off+2 * i+1,none⟩=some (.int .i64 r.2)):=by
  obtain⟨q',cap',e,-,-,hc⟩:=X5.out.1.arg.slice
  cases e
  exact hc
 have SP:Hid (∀ k,k<=S.length->Cls ((S.take k).foldl cP [])/\Fit ((S.take k).foldl cP [])/\((S.take k).foldl cP []).length<=k/\∀ c,In ((S.take k).foldl cP []) c ↔ In (S.take k) c):=fun k hk=>by
  have:=mY X5.out.2.1.rise X5.out.2.2.1 k hk
  exact⟨this.1,this.2.1,this.2.2.1,this.2.2.2.1⟩
 go_loopw [3,5] (fun ov i wr=>∃ k:Nat,k<=S.length/\i=.int .i64 k/\RR W1.heap.size wr ov ((S.take k).foldl cP [])/\Below W1.heap.size W1 wr) (fun _ i _=>S.length - (intOf i).toNat)
 case atStart=>exact⟨0,m9 _,rfl,RR.nil _ _,Below.refl _ _⟩
 case round=>
  obtain⟨k,hk,rfl,hrr,hb⟩:=hrel
  have RC:Hid (RR W1.heap.size wr u3 ((S.take k).foldl cP [])):=hrr
  have BB:Hid (Below W1.heap.size W1 wr):=hb
  have hbs:=hb.size
  clear hb hrr
  by_cases hlt:k < S.length
  ·obtain⟨r,hr⟩:∃ r,S[k]?=some r:=⟨_,g9 hlt⟩
   obtain⟨g,off,rfl,hg,x1,x2⟩:=HC.out k _ hr
   rw [aAJ] at x1 x2
   have NX:Hid ((S.take (k+1)).foldl cP []=cP ((S.take k).foldl cP []) r):=aD (by
    obtain⟨h1,h2⟩:=i5.1 hr
    rw [eH _ _ h1,aBJ,h2];rfl)
   have hne:¬ r.2 < r.1:=by have:=X5.out.2.1.some r (i9 hr);omega
   have hfr:=X5.out.2.2.1 r (i9 hr)
   have SPk:=SP.out k hk
   have FC:Hid (Fit ((S.take k).foldl cP [])):=SPk.2.1
   have hcl:=SPk.2.2.1
   obtain⟨lo,hi⟩:=r
   dsimp only at x1 x2 hne hfr
   have XS:Hid (W1.cell? ⟨g,off+k * 2,none⟩=some (.int .i64 lo)/\W1.cell? ⟨g,off+k * 2+1,none⟩=some (.int .i64 hi)/\g < W1.heap.size):=⟨x1,x2,hg⟩
   have cs1:=(BB.out.cell (p:=⟨g,off+k * 2,none⟩) hg).trans x1
   have sg:g < wr.heap.size:=i6 hg hbs
   have i0:(0:Int)<=(k:Int):=by omega
   have i1:(k:Int) < (S.length:Int):=by omega
   clear x1 x2 hr SPk hg
   generalize (S.take k).foldl cP []=C at *
   rcases iS C with e | ⟨D,x,e⟩
   ·subst e
    obtain⟨qo,co,e3⟩:=RC.out.shape
    subst e3
    have LD:Hid ((0:Nat)=0):=rfl
    have NX2:Hid ((S.take (k+1)).foldl cP []=[(lo,hi)]):=aD (by rw [NX.out,mF hne])
    simp only [List.length_nil] at RC ⊢
    have wn:IntKind.wrap .i64 ((0:Int) - 1)=-1:=by decide
    have d0:decide ((0:Int)<=-1)=false:=by decide
    ··
      go_wp2
      refine wx9 ?_
      repeat (go_big_quiet_step (first | exact rfl))
      refine wpQuiet_nil ?_
      intro w7 hw7
      have B7:Hid (Below W1.heap.size W1 w7):=aJ BB.out (aQ hw7) lz9
      have e1:=(B7.out.cell (p:=⟨g,off+k * 2,none⟩) XS.out.2.2).trans XS.out.1
      have e2:=(B7.out.cell (p:=⟨g,off+k * 2+1,none⟩) XS.out.2.2).trans XS.out.2.1
      have hz7:=B7.out.size
      have R7:Hid (RR W1.heap.size w7 (.slice qo 0 co) []):=RC.out.kept (aQ hw7)
      clear hw7 cs1
      go_wp2_with (at_builtin;refine wpList_append_own_at _ rfl _ _ 22 rfl W1.heap.size 110 t0 (.agg #[.int .i64 0,.int .i64 0]) 2 16 bM ti hz0 hz1 hz2 rfl (by decide) (.slice qo 0 co) 0 (aS []) rfl (l9 R7.out (.cells #[.int .i64 lo,.int .i64 hi] 110)) ⟨w7.heap.size,0,none⟩ 1 1 [.int .i64 lo,.int .i64 hi] rfl rfl (lF _ _ _ _) (by simp [Value.oneCell']) (by unfold maxLen;omega) (by omega) (by simp;omega) ?_;intro v' w6 hown' hgrow _ hblk;obtain⟨g6,cap6,rfl⟩:=aL hown' (aAC _);have A6:Hid (RR W1.heap.size w6 (.slice (some ⟨g6,0,none⟩) (0+1) cap6) ([(lo,hi)])):=rA (F:=[]) (L:=[(lo,hi)]) hown';have B6:Hid (Below W1.heap.size W1 w6):=dC (B7.out.alloc hz7 _) (l9 R7.out _) hgrow;clear hown' hgrow hblk)
      go_roundw
      case rel=>exact⟨k+1,by omega,by go_num,mQ NX2.out.symm A6.out,B6.out⟩
      case measure=>simp [intOf];omega
   ·subst e
    have fx:=FC.out x (by simp)
    obtain⟨nd,hnd⟩:∃ nd,D.length=nd:=⟨_,rfl⟩
    have LD:Hid (D.length=nd):=hnd
    have OW0:Hid (wr.ownsRow W1.heap.size 110 2 u3 (nd+1) (aS (D ++ [x]))):=aD (by have:=RC.out;unfold RR at this;rwa [m7,aBS,hnd] at this)
    obtain⟨go,co,e3⟩:=aL OW0.out (by omega)
    subst e3
    have OW:Hid (wr.ownsRow W1.heap.size 110 2 (.slice (some ⟨go,0,none⟩) (nd+1) co) (nd+1) (aS (D ++ [x]))):=OW0.out
    have hgo:go < wr.heap.size:=(aH OW.out rfl).2.1
    have hgb:W1.heap.size<=go:=(aH OW.out rfl).1
    have hcell:=(pW OW.out hnd).2
    rw [m7,aBS,hnd] at hcl
    clear RC OW0 hnd
    obtain⟨y,hy⟩:∃ y,x.2=y:=⟨_,rfl⟩
    rw [hy] at hcell fx
    have HY:Hid (x.2=y):=hy
    clear hy
    have wn:IntKind.wrap .i64 ((nd:Int)+1 - 1)=(nd:Int):=by rw [IntKind.wrap_i64];omega
    have j0:(0:Int)<=(nd:Int):=by omega
    have j1:(nd:Int) < (nd:Int)+1:=by omega
    have d0:decide ((0:Int)<=(nd:Int))=true:=r8 j0
    by_cases hf:y+1 < lo
    ·have d1:decide (lo<=y)=false:=l8 (by omega)
     have wl:IntKind.wrap .i64 (lo - 1)=lo - 1:=by rw [IntKind.wrap_i64];omega
     have d2:(lo - 1==y)=false:=beq_false_of_ne (by omega)
     have NX2:Hid ((S.take (k+1)).foldl cP []=D ++ [x] ++ [(lo,hi)]):=aD (by rw [NX.out,mH hne (by rw [HY.out];exact hf)])
     ·
      go_wp2
      refine wx9 ?_
      repeat (go_big_quiet_step (first | exact rfl))
      refine wpQuiet_nil ?_
      intro w7 hw7
      have B7:Hid (Below W1.heap.size W1 w7):=aJ BB.out (aQ hw7) lz9
      have e1:=(B7.out.cell (p:=⟨g,off+k * 2,none⟩) XS.out.2.2).trans XS.out.1
      have e2:=(B7.out.cell (p:=⟨g,off+k * 2+1,none⟩) XS.out.2.2).trans XS.out.2.1
      have hz7:=B7.out.size
      have R7:Hid (w7.ownsRow W1.heap.size 110 2 (.slice (some ⟨go,0,none⟩) (nd+1) co) (nd+1) (aS (D ++ [x]))):=aM (S:=fun _=>False) OW.out (Fr.of_below (aQ hw7)) (fun _ _ q=>q)
      clear hw7 cs1 hcell
      go_wp2_with (at_builtin;refine wpList_append_own_at _ rfl _ _ 22 rfl W1.heap.size 110 t0 (.agg #[.int .i64 0,.int .i64 0]) 2 16 bM ti hz0 hz1 hz2 rfl (by decide) (.slice (some ⟨go,0,none⟩) (nd+1) co) (nd+1) (aS (D ++ [x])) rfl (l9 R7.out (.cells #[.int .i64 lo,.int .i64 hi] 110)) ⟨w7.heap.size,0,none⟩ 1 1 [.int .i64 lo,.int .i64 hi] rfl rfl (lF _ _ _ _) (by simp [Value.oneCell']) (by unfold maxLen;omega) (by omega) (by simp;omega) ?_;intro v' w6 hown' hgrow _ hblk;obtain⟨g6,cap6,rfl⟩:=aL hown' (aAC _);have A6:Hid (RR W1.heap.size w6 (.slice (some ⟨g6,0,none⟩) ((nd+1)+1) cap6) (D ++ [x] ++ [(lo,hi)])):=rA (F:=(D ++ [x])) (L:=[(lo,hi)]) hown';have B6:Hid (Below W1.heap.size W1 w6):=dC (B7.out.alloc hz7 _) (l9 R7.out _) hgrow;clear hown' hgrow hblk)
      go_roundw
      case rel=>exact⟨k+1,by omega,by go_num,mQ NX2.out.symm A6.out,B6.out⟩
      case measure=>simp [intOf];omega
    ·obtain⟨M,hM⟩:∃ M,max x.2 hi=M:=⟨_,rfl⟩
     have HM:Hid (max x.2 hi=M):=hM
     have hmx:∀ t ty w,(Builtin.max_ t ty #[.int .i64 y,.int .i64 hi]).run Tryz.prog w=.ok (.int .i64 M) w:=fun t ty w=>by rw [jI,<- HY.out,HM.out]
     have NR:Hid (¬ hi < lo->cP (D ++ [x]) (lo,hi)=D ++ [(x.1,max x.2 hi)]):=fun q=>kG q (by rw [HY.out];exact hf)
     clear hM
     by_cases hq:lo<=y
     ·have d1:decide (lo<=y)=true:=r8 hq
      have d2:True:=trivial
      go_wp2
      refine wx9 ?_
      repeat (go_big_quiet_step (first | exact rfl))
      refine wpQuiet_nil ?_
      intro w7 hw7
      have B7:Hid (Below W1.heap.size W1 w7):=aJ BB.out (aQ hw7) lz9
      have e1:=(B7.out.cell (p:=⟨g,off+k * 2,none⟩) XS.out.2.2).trans XS.out.1
      have e2:=(B7.out.cell (p:=⟨g,off+k * 2+1,none⟩) XS.out.2.2).trans XS.out.2.1
      have hz7:=B7.out.size
      have O7:Hid (w7.drew.ownsRow W1.heap.size 110 2 (.slice (some ⟨go,0,none⟩) (nd+1) co) (nd+1) (aS (D ++ [x]))):=(aM (S:=fun _=>False) OW.out (Fr.of_below (aQ hw7)) (fun _ _ q=>q)).drew
      have c7:=((aQ hw7).cell (p:=⟨go,nd * 2+1,none⟩) hgo).trans hcell
      have f7:w7.frozen? ⟨go,nd * 2+1,none⟩=false:=O7.out.frozenAt (nd * 2+1)
      clear hw7 hcell d1 d2
      go_wp2
      go_region_with fail
      all_goals (
       go_wp2
       go_roundw
       case rel=>exact⟨k+1,by omega,by go_num,mQ (NX.out.trans (NR.out hne)).symm (by rw [HM.out];exact aU1 (oC O7.out LD.out M) (by have:=LD.out;simp;omega)),B7.out.drew.setCell (p:=⟨go,nd * 2+1,none⟩) hgb _⟩
       case measure=>simp [intOf];omega)
     ·have d1:decide (lo<=y)=false:=l8 hq
      have wl:IntKind.wrap .i64 (lo - 1)=lo - 1:=by rw [IntKind.wrap_i64];omega
      have d2:(lo - 1==y)=true:=by rw [beq_iff_eq];omega
      go_wp2
      refine wx9 ?_
      repeat (go_big_quiet_step (first | exact rfl))
      refine wpQuiet_nil ?_
      intro w7 hw7
      have B7:Hid (Below W1.heap.size W1 w7):=aJ BB.out (aQ hw7) lz9
      have e1:=(B7.out.cell (p:=⟨g,off+k * 2,none⟩) XS.out.2.2).trans XS.out.1
      have e2:=(B7.out.cell (p:=⟨g,off+k * 2+1,none⟩) XS.out.2.2).trans XS.out.2.1
      have hz7:=B7.out.size
      have O7:Hid (w7.drew.ownsRow W1.heap.size 110 2 (.slice (some ⟨go,0,none⟩) (nd+1) co) (nd+1) (aS (D ++ [x]))):=(aM (S:=fun _=>False) OW.out (Fr.of_below (aQ hw7)) (fun _ _ q=>q)).drew
      have c7:=((aQ hw7).cell (p:=⟨go,nd * 2+1,none⟩) hgo).trans hcell
      have f7:w7.frozen? ⟨go,nd * 2+1,none⟩=false:=O7.out.frozenAt (nd * 2+1)
      clear hw7 hcell d1 d2
      go_wp2
      go_region_with fail
      all_goals (
       go_wp2
       go_roundw
       case rel=>exact⟨k+1,by omega,by go_num,mQ (NX.out.trans (NR.out hne)).symm (by rw [HM.out];exact aU1 (oC O7.out LD.out M) (by have:=LD.out;simp;omega)),B7.out.drew.setCell (p:=⟨go,nd * 2+1,none⟩) hgb _⟩
       case measure=>simp [intOf];omega)
  ·have i1:¬ (k:Int) < (S.length:Int):=by omega
   have E:Hid (S.take k=S):=aD (j9 (by omega))
   have SPn:=SP.out k hk
   rw [E.out] at RC SPn
   have SS:Hid _:=SPn
   have hcl:=SPn.2.2.1
   clear SPn
   go_wp2
   go_ret
   exact⟨_,_,rfl,RC.out.mono X5.out.2.2.2.2.2.size,⟨SS.out.1,SS.out.2.1,fun c=>(SS.out.2.2.2 c).trans (X5.out.2.2.2.1 c)⟩,by omega,aJ X5.out.2.2.2.2.2 BB.out lz9⟩
end
section
attribute [local go_sem] bB
def fR(A B:List (Int × Int)):List (Int × Int):=A.flatMap fun a=>B.map (fP a)
theorem aE1{A B:List (Int × Int)}{i:Nat}{a:Int × Int}(h:A[i]?=some a):fR (A.take (i+1)) B=fR (A.take i) B ++ B.map (fP a):=by
 obtain⟨hk,rfl⟩:=i5.1 h
 rw [eH A i hk]
 unfold fR
 rw [List.flatMap_append]
 simp only [aBA,List.flatMap_nil,aBH]
theorem aV6{B:List (Int × Int)}{j:Nat}{b a:Int × Int}(h:B[j]?=some b):(B.take (j+1)).map (fP a)=(B.take j).map (fP a) ++ [fP a b]:=by
 obtain⟨hk,rfl⟩:=i5.1 h
 rw [eH B j hk,aAR]
 rfl
theorem aW7(A B:List (Int × Int))(c:Int):In (fR A B) c ↔ In A c/\In B c:=by
 unfold fR In fP
 constructor
 ·rintro ⟨r,hr,h1,h2⟩
  obtain⟨a,ha,hr⟩:=List.mem_flatMap.1 hr
  obtain⟨b,hb,rfl⟩:=aAM.1 hr
  simp only at h1 h2
  exact⟨⟨a,ha,by omega,by omega⟩,b,hb,by omega,by omega⟩
 ·rintro ⟨⟨a,ha,h1,h2⟩,b,hb,h3,h4⟩
  exact⟨_,List.mem_flatMap.2 ⟨a,ha,aAM.2 ⟨b,hb,rfl⟩⟩,by simp only;omega,by simp only;omega⟩
theorem aP4{A B:List (Int × Int)}(fa:Fit A)(fb:Fit B):Fit (fR A B):=fun r hr=>by
 obtain⟨a,ha,hr⟩:=List.mem_flatMap.1 hr
 obtain⟨b,hb,rfl⟩:=aAM.1 hr
 have h1:=fa a ha
 have h2:=fb b hb
 simp only [fP]
 omega
theorem oI(A B:List (Int × Int)):(fR A B).length=A.length * B.length:=by
 induction A with
 | nil=>simp [fR]
 | cons a A ih=>simp only [fR,aBA,m7,o8,j8,Nat.succ_mul] at *;omega
theorem aD8{w:World}{va vb:Value}{A0 B0:List (Int × Int)}(ha:ArgR w va A0)(hb:ArgR w vb B0)(fa:Fit A0)(fb:Fit B0)(hl1:A0.length+1<=8796093022208)(hl2:B0.length+1<=8796093022208)(hl:A0.length * B0.length+1<=8796093022208) :
  Calls Tryz.prog 118 #[va,vb] w (xG w (fun c=>In A0 c/\In B0 c) (A0.length * B0.length)):=by
 obtain⟨t0,ti,hz0,hz1,hz2⟩:=bH cY
 have H:Hid ((ArgR w va A0/\Fit A0)/\ArgR w vb B0/\Fit B0):=⟨⟨ha,fa⟩,hb,fb⟩
 clear ha hb fa fb
 go_enter Tryz.func118,Tryz.ntmps118
 go_upto_region 5 with first
  |(go_at_call 117;have hx:=X5.out;clear hx;have hih:=lQ (H.out.2.1.kept X5.out.2.2.2) H.out.2.2 hl2;(with_reducible refine hih.mono ?_);clear hih;rintro e w6 ⟨v6,B,rfl,h1,h2,h3,h4⟩;obtain⟨qb,cb,rfl⟩:=h1.shape;have X6:Hid (RR w5.heap.size w6 (.slice qb B.length cb) B/\IsC B (In B0)/\B.length<=B0.length/\Below w5.heap.size w5 w6):=⟨h1,h2,h3,h4⟩;clear h1 h2 h3 h4)
  |(go_at_call 117;have hih:=lQ H.out.1.1 H.out.1.2 hl1;(with_reducible refine hih.mono ?_);clear hih;rintro e w5 ⟨v5,A,rfl,h1,h2,h3,h4⟩;obtain⟨qa,ca,rfl⟩:=h1.shape;have X5:Hid (RR w.heap.size w5 (.slice qa A.length ca) A/\IsC A (In A0)/\A.length<=A0.length/\Below w.heap.size w w5):=⟨h1,h2,h3,h4⟩;clear h1 h2 h3 h4)
 rename World=>W1
 have hla:=X5.out.2.2.1
 have hlb:=X6.out.2.2.1
 have HA:Hid (∀ (i:Nat) (r:Int × Int),A[i]?=some r->∃ g off,qa=some ⟨g,off,none⟩/\g < W1.heap.size/\W1.cell? ⟨g,off+2 * i,none⟩=some (.int .i64 r.1)/\W1.cell? ⟨g,off+2 * i+1,none⟩=some (.int .i64 r.2)):=by
  obtain⟨q',cap',e,-,-,hc⟩:=(X5.out.1.kept X6.out.2.2.2).arg.slice
  cases e
  exact hc
 have HB:Hid (∀ (i:Nat) (r:Int × Int),B[i]?=some r->∃ g off,qb=some ⟨g,off,none⟩/\g < W1.heap.size/\W1.cell? ⟨g,off+2 * i,none⟩=some (.int .i64 r.1)/\W1.cell? ⟨g,off+2 * i+1,none⟩=some (.int .i64 r.2)):=by
  obtain⟨q',cap',e,-,-,hc⟩:=X6.out.1.arg.slice
  cases e
  exact hc
 have LP:Hid (∀ i,(fR (A.take i) B).length+B.length * (A.length - i)<=A0.length * B0.length\/A.length < i):=fun i=>by
  rcases Nat.lt_or_ge A.length i with h | h
  ·exact .inr h
  ·left
   rw [oI,o9,Nat.min_eq_left h,aAJ B.length,<- Nat.add_mul,Nat.add_sub_cancel' h]
   exact Nat.mul_le_mul hla hlb
 have BW:Hid (Below w.heap.size w W1):=aJ X5.out.2.2.2 X6.out.2.2.2 lz9
 go_loopw [7,8] (fun ov i wr=>∃ k:Nat,k<=A.length/\i=.int .i64 k/\RR W1.heap.size wr ov (fR (A.take k) B)/\Below W1.heap.size W1 wr) (fun _ i _=>A.length - (intOf i).toNat)
 case atStart=>exact⟨0,m9 _,rfl,RR.nil _ _,Below.refl _ _⟩
 case round=>
  obtain⟨k,hk,rfl,hrr,hb⟩:=hrel
  have RO:Hid (RR W1.heap.size wr u7 (fR (A.take k) B)):=hrr
  have BB:Hid (Below W1.heap.size W1 wr):=hb
  clear hrr hb
  by_cases hlt:k < A.length
  ·obtain⟨a,ea⟩:∃ r,A[k]?=some r:=⟨_,g9 hlt⟩
   obtain⟨ga,oa,rfl,hga,xa1,xa2⟩:=HA.out k _ ea
   have PN:Hid (fR (A.take (k+1)) B=fR (A.take k) B ++ B.map (fP a)):=aE1 ea
   rw [aAJ] at xa1 xa2
   have XA:Hid (W1.cell? ⟨ga,oa+k * 2,none⟩=some (.int .i64 a.1)/\W1.cell? ⟨ga,oa+k * 2+1,none⟩=some (.int .i64 a.2)/\ga < W1.heap.size):=⟨xa1,xa2,hga⟩
   have LK:Hid ((fR (A.take k) B).length+B.length+1<=8796093022208):=aD (by
    rcases LP.out (k+1) with h | h
    ·have:=PN.out;rw [this,m7,o8] at h;omega
    ·omega)
   have i0:(0:Int)<=(k:Int):=by omega
   have i1:(k:Int) < (A.length:Int):=by omega
   clear xa1 xa2 hga ea
   rename World=>W2
   generalize fR (A.take k) B=P at *
   go_wp2
   go_loopw [7,9] (fun ov i wr=>∃ j:Nat,j<=B.length/\i=.int .i64 j/\RR W1.heap.size wr ov (P ++ (B.take j).map (fP a))/\Below W1.heap.size W1 wr) (fun _ i _=>B.length - (intOf i).toNat)
   case atStart=>exact⟨0,m9 _,rfl,by simpa using RO.out,BB.out⟩
   case round=>
    clear RO BB
    obtain⟨j,hj,rfl,hrr,hb⟩:=hrel
    obtain⟨qo,co,e3⟩:=hrr.shape
    subst e3
    obtain⟨O,hO⟩:∃ O,P ++ (B.take j).map (fP a)=O:=⟨_,rfl⟩
    have EO:Hid (P ++ (B.take j).map (fP a)=O):=hO
    rw [hO] at hrr ⊢
    have RO:Hid (RR W1.heap.size wr (.slice qo O.length co) O):=hrr
    have BB:Hid (Below W1.heap.size W1 wr):=hb
    have hbs:=hb.size
    have hol:O.length+1<=8796093022208:=by have:=LK.out;rw [<- hO,m7,o8,o9];omega
    clear hrr hb hO
    by_cases hjlt:j < B.length
    ·obtain⟨b,eb⟩:∃ r,B[j]?=some r:=⟨_,g9 hjlt⟩
     obtain⟨gb,ob,rfl,hgb,xb1,xb2⟩:=HB.out j _ eb
     have MN:Hid (P ++ (B.take (j+1)).map (fP a)=O ++ [fP a b]):=aD (by rw [aV6 eb,<- t9,EO.out])
     rw [aAJ] at xb1 xb2
     have c1:=(BB.out.cell (p:=⟨ga,oa+k * 2,none⟩) XA.out.2.2).trans XA.out.1
     have c2:=(BB.out.cell (p:=⟨ga,oa+k * 2+1,none⟩) XA.out.2.2).trans XA.out.2.1
     have c3:=(BB.out.cell (p:=⟨gb,ob+j * 2,none⟩) hgb).trans xb1
     have c4:=(BB.out.cell (p:=⟨gb,ob+j * 2+1,none⟩) hgb).trans xb2
     have s1:ga < wr.heap.size:=i6 XA.out.2.2 hbs
     have s2:gb < wr.heap.size:=i6 hgb hbs
     obtain⟨a1,ha1⟩:∃ x,a.1=x:=⟨_,rfl⟩
     obtain⟨a2,ha2⟩:∃ x,a.2=x:=⟨_,rfl⟩
     obtain⟨b1,hb1⟩:∃ x,b.1=x:=⟨_,rfl⟩
     obtain⟨b2,hb2⟩:∃ x,b.2=x:=⟨_,rfl⟩
     rw [ha1] at c1
     rw [ha2] at c2
     rw [hb1] at c3
     rw [hb2] at c4
     obtain⟨cr,hcr⟩:∃ cr,fP a b=cr:=⟨_,rfl⟩
     have hmx:∀ t ty w,(Builtin.max_ t ty #[.int .i64 a1,.int .i64 b1]).run Tryz.prog w=.ok (.int .i64 cr.1) w:=fun t ty w=>by rw [jI,<- hcr,<- ha1,<- hb1];rfl
     have hmn:∀ t ty w,(Builtin.min_ t ty #[.int .i64 a2,.int .i64 b2]).run Tryz.prog w=.ok (.int .i64 cr.2) w:=fun t ty w=>by rw [oK,<- hcr,<- ha2,<- hb2];rfl
     have MN2:Hid (P ++ (B.take (j+1)).map (fP a)=O ++ [(cr.1,cr.2)]):=aD (by rw [MN.out,hcr])
     have j0:(0:Int)<=(j:Int):=by omega
     have j1:(j:Int) < (B.length:Int):=by omega
     have RD:Hid (RR W1.heap.size wr.drew (.slice qo O.length co) O):=aBO RO.out
     have BD:Hid (Below W1.heap.size W1 wr.drew):=BB.out.drew
     have ne1:=World.new_ne wr _ c1
     have ne3:=World.new_ne wr _ c3
     have XK:Hid (W1.cell? ⟨ga,oa+k * 2,none⟩=some (.int .i64 a1)/\W1.cell? ⟨ga,oa+k * 2+1,none⟩=some (.int .i64 a2)/\W1.cell? ⟨gb,ob+j * 2,none⟩=some (.int .i64 b1)/\W1.cell? ⟨gb,ob+j * 2+1,none⟩=some (.int .i64 b2)/\gb < W1.heap.size):=⟨by rw [<- ha1];exact XA.out.1,by rw [<- ha2];exact XA.out.2.1,by rw [<- hb1];exact xb1,by rw [<- hb2];exact xb2,hgb⟩
     clear xb1 xb2 eb hgb MN ha1 ha2 hb1 hb2 hcr
     have QC:Hid (∀ w',Below W1.heap.size W1 w'->w'.cell? ⟨ga,oa+k * 2,none⟩=some (.int .i64 a1)/\w'.cell? ⟨ga,oa+k * 2+1,none⟩=some (.int .i64 a2)/\w'.cell? ⟨gb,ob+j * 2,none⟩=some (.int .i64 b1)/\w'.cell? ⟨gb,ob+j * 2+1,none⟩=some (.int .i64 b2)):=fun w' hb=>⟨(hb.cell (p:=⟨ga,oa+k * 2,none⟩) XA.out.2.2).trans XK.out.1,(hb.cell (p:=⟨ga,oa+k * 2+1,none⟩) XA.out.2.2).trans XK.out.2.1,(hb.cell (p:=⟨gb,ob+j * 2,none⟩) XK.out.2.2.2.2).trans XK.out.2.2.1,(hb.cell (p:=⟨gb,ob+j * 2+1,none⟩) XK.out.2.2.2.2).trans XK.out.2.2.2.1⟩
     clear c1 c2 c3 c4
     go_wp2
     refine wp_region_held_drew (S:=fun w'=>Below W1.heap.size W1 w') (by kernel_rfl) BD.out (fun hHeld=>?_)
     refine aCD (v:=?_) 0 ?_ ?_
     rotate_left
     ·intro wz hSw;obtain⟨q1,q2,q3,q4⟩:=QC.out wz hSw;clear hSw;go_simp;try with_reducible rfl
     dsimp only [Act.put,f4,b6,b7]
     simp only [a8,g4,g3]
     refine aCD (v:=?_) 1 ?_ ?_
     rotate_left
     ·intro wz hSw;obtain⟨q1,q2,q3,q4⟩:=QC.out wz hSw;clear hSw;go_simp;try with_reducible rfl
     dsimp only [Act.put,f4,b6,b7]
     simp only [a8,g4,g3]
     refine aCD (v:=?_) 2 ?_ ?_
     rotate_left
     ·intro wz hSw;obtain⟨q1,q2,q3,q4⟩:=QC.out wz hSw;clear hSw;go_simp;try with_reducible rfl
     dsimp only [Act.put,f4,b6,b7]
     simp only [a8,g4,g3]
     refine aCD (v:=?_) 3 ?_ ?_
     rotate_left
     ·intro wz hSw;obtain⟨q1,q2,q3,q4⟩:=QC.out wz hSw;clear hSw;go_simp;try with_reducible rfl
     dsimp only [Act.put,f4,b6,b7]
     simp only [a8,g4,g3]
     refine aCD (v:=?_) 4 ?_ ?_
     rotate_left
     ·intro wz hSw;obtain⟨q1,q2,q3,q4⟩:=QC.out wz hSw;clear hSw;go_simp;try with_reducible rfl
     dsimp only [Act.put,f4,b6,b7]
     simp only [a8,g4,g3]
     refine aCD (v:=?_) 5 ?_ ?_
     rotate_left
     ·intro wz hSw;obtain⟨q1,q2,q3,q4⟩:=QC.out wz hSw;clear hSw;go_simp;try with_reducible rfl
     dsimp only [Act.put,f4,b6,b7]
     simp only [a8,g4,g3]
     refine aCD (v:=?_) 6 ?_ ?_
     rotate_left
     ·intro wz hSw;obtain⟨q1,q2,q3,q4⟩:=QC.out wz hSw;clear hSw;go_simp;try with_reducible rfl
     dsimp only [Act.put,f4,b6,b7]
     simp only [a8,g4,g3]
     refine aCD (v:=?_) 7 ?_ ?_
     rotate_left
     ·intro wz hSw;obtain⟨q1,q2,q3,q4⟩:=QC.out wz hSw;clear hSw;go_simp;try with_reducible rfl
     dsimp only [Act.put,f4,b6,b7]
     simp only [a8,g4,g3]
     refine aCD (v:=?_) 8 ?_ ?_
     rotate_left
     ·intro wz hSw;obtain⟨q1,q2,q3,q4⟩:=QC.out wz hSw;clear hSw;go_simp;try with_reducible rfl
     dsimp only [Act.put,f4,b6,b7]
     simp only [a8,g4,g3]
     refine aCD (v:=?_) 9 ?_ ?_
     rotate_left
     ·intro wz hSw;obtain⟨q1,q2,q3,q4⟩:=QC.out wz hSw;clear hSw;go_simp;try with_reducible rfl
     dsimp only [Act.put,f4,b6,b7]
     simp only [a8,g4,g3]
     refine aCD (v:=?_) 10 ?_ ?_
     rotate_left
     ·intro wz hSw;obtain⟨q1,q2,q3,q4⟩:=QC.out wz hSw;clear hSw;go_simp;try with_reducible rfl
     dsimp only [Act.put,f4,b6,b7]
     simp only [a8,g4,g3]
     refine aCD (v:=?_) 11 ?_ ?_
     rotate_left
     ·intro wz hSw;obtain⟨q1,q2,q3,q4⟩:=QC.out wz hSw;clear hSw;go_simp;try with_reducible rfl
     dsimp only [Act.put,f4,b6,b7]
     simp only [a8,g4,g3]
     refine aCD (v:=?_) 12 ?_ ?_
     rotate_left
     ·intro wz hSw;obtain⟨q1,q2,q3,q4⟩:=QC.out wz hSw;clear hSw;go_simp;try with_reducible rfl
     dsimp only [Act.put,f4,b6,b7]
     simp only [a8,g4,g3]
     refine aCD (v:=?_) 13 ?_ ?_
     rotate_left
     ·intro wz hSw;obtain⟨q1,q2,q3,q4⟩:=QC.out wz hSw;clear hSw;go_simp;try with_reducible rfl
     dsimp only [Act.put,f4,b6,b7]
     simp only [a8,g4,g3]
     refine aCD (v:=?_) 14 ?_ ?_
     rotate_left
     ·intro wz hSw;obtain⟨q1,q2,q3,q4⟩:=QC.out wz hSw;clear hSw;go_simp;try with_reducible rfl
     dsimp only [Act.put,f4,b6,b7]
     simp only [a8,g4,g3]
     refine aCD (v:=?_) 15 ?_ ?_
     rotate_left
     ·intro wz hSw;obtain⟨q1,q2,q3,q4⟩:=QC.out wz hSw;clear hSw;go_simp;try with_reducible rfl
     dsimp only [Act.put,f4,b6,b7]
     simp only [a8,g4,g3]
     refine aCD (v:=?_) 16 ?_ ?_
     rotate_left
     ·intro wz hSw;obtain⟨q1,q2,q3,q4⟩:=QC.out wz hSw;clear hSw;go_simp;try with_reducible rfl
     dsimp only [Act.put,f4,b6,b7]
     simp only [a8,g4,g3]
     refine aCD (v:=?_) 17 ?_ ?_
     rotate_left
     ·intro wz hSw;obtain⟨q1,q2,q3,q4⟩:=QC.out wz hSw;clear hSw;go_simp;try with_reducible rfl
     dsimp only [Act.put,f4,b6,b7]
     simp only [a8,g4,g3]
     refine aCD (v:=?_) 18 ?_ ?_
     rotate_left
     ·intro wz hSw;obtain⟨q1,q2,q3,q4⟩:=QC.out wz hSw;clear hSw;go_simp;try with_reducible rfl
     dsimp only [Act.put,f4,b6,b7]
     simp only [a8,g4,g3]
     refine aCD (v:=?_) 19 ?_ ?_
     rotate_left
     ·intro wz hSw;obtain⟨q1,q2,q3,q4⟩:=QC.out wz hSw;clear hSw;go_simp;try with_reducible rfl
     dsimp only [Act.put,f4,b6,b7]
     simp only [a8,g4,g3]
     refine aCD (v:=?_) 20 ?_ ?_
     rotate_left
     ·intro wz hSw;obtain⟨q1,q2,q3,q4⟩:=QC.out wz hSw;clear hSw;go_simp;try with_reducible rfl
     dsimp only [Act.put,f4,b6,b7]
     simp only [a8,g4,g3]
     refine aCD (v:=?_) 21 ?_ ?_
     rotate_left
     ·intro wz hSw;obtain⟨q1,q2,q3,q4⟩:=QC.out wz hSw;clear hSw;go_simp;try with_reducible rfl
     dsimp only [Act.put,f4,b6,b7]
     simp only [a8,g4,g3]
     refine aCD (v:=?_) 22 ?_ ?_
     rotate_left
     ·intro wz hSw;obtain⟨q1,q2,q3,q4⟩:=QC.out wz hSw;clear hSw;go_simp;try with_reducible rfl
     dsimp only [Act.put,f4,b6,b7]
     simp only [a8,g4,g3]
     refine aCD (v:=?_) 23 ?_ ?_
     rotate_left
     ·intro wz hSw;obtain⟨q1,q2,q3,q4⟩:=QC.out wz hSw;clear hSw;go_simp;try with_reducible rfl
     dsimp only [Act.put,f4,b6,b7]
     simp only [a8,g4,g3]
     refine wpAnyH_ready (rs:=[24]) (by kernel_rfl) (by simp) ?_
     refine AllReadyH.cons rfl (fun K hK=>?_) AllReadyH.nil
     go_simp
     refine hK.out _ _ (BD.out.alloc (by simp;omega) _) (fun hHeld2=>?_)
     clear hK K
     refine wpAnyH_ready (rs:=[25]) (by kernel_rfl) (by simp) ?_
     refine AllReadyH.cons rfl (fun K hK=>?_) AllReadyH.nil
     refine bF rfl _ _ 22 rfl W1.heap.size 110 t0 (.agg #[.int .i64 0,.int .i64 0]) 2 16 bM ti hz0 hz1 hz2 rfl (by decide) (.slice qo O.length co) O.length (aS O) (by simp [Act.eval]) (l9 RD.out (.cells #[.int .i64 cr.1,.int .i64 cr.2] 110)) ⟨wr.heap.size,0,none⟩ 1 1 [.int .i64 cr.1,.int .i64 cr.2] (by simp [Act.eval]) rfl (lF _ _ _ _) (by simp [Value.oneCell']) (by unfold maxLen;omega) (by omega) (by simp;omega) ?_
     intro v' w6 hown' hgrow hblk
     obtain⟨g6,cap6,rfl⟩:=aL hown' (aAC _)
     have A6:Hid (RR W1.heap.size w6 (.slice (some ⟨g6,0,none⟩) (O.length+1) cap6) (O ++ [(cr.1,cr.2)])):=pR hown'
     have B6:Hid (Below W1.heap.size W1 w6):=dC (BD.out.alloc (by simp;omega) _) (l9 RD.out _) hgrow
     clear hown' hgrow hblk
     refine hK.out _ _ B6.out (fun hHeld3=>?_)
     clear hK K
     refine wpAnyH_ready (rs:=[26]) (by kernel_rfl) (by simp) ?_
     refine AllReadyH.cons rfl (fun K hK=>?_) AllReadyH.nil
     go_simp
     refine hK.out _ _ B6.out (fun hHeld4=>?_)
     clear hK K
     refine wpAnyH_done (by kernel_rfl) ?_ _
     all_goals (
      go_wp2
      go_roundw
      case rel=>exact⟨j+1,by omega,by go_num,mQ MN2.out.symm A6.out,B6.out⟩
      case measure=>simp [intOf];omega)
    ·have j1:¬ (j:Int) < (B.length:Int):=by omega
     have EE:Hid (fR (A.take (k+1)) B=O):=aD (by rw [PN.out,<- EO.out,j9 (by omega)])
     go_wp2
     go_roundw
     case rel=>exact⟨k+1,by omega,by go_num,mQ EE.out.symm RO.out,BB.out⟩
     case measure=>simp [intOf];omega
  ·have i1:¬ (k:Int) < (A.length:Int):=by omega
   have E:Hid (A.take k=A):=aD (j9 (by omega))
   rw [E.out] at RO
   have LN:Hid ((fR A B).length<=A0.length * B0.length):=aD (by rw [oI];exact Nat.mul_le_mul hla hlb)
   go_wp2_with (go_at_call 117;refine(lQ RO.out.arg (aP4 X5.out.2.1.fit X6.out.2.1.fit) (by have:=LN.out;omega)).mono ?_;rintro e w7 ⟨v7,C,rfl,h1,h2,h3,h4⟩;have X7:Hid (RR wr.heap.size w7 v7 C/\IsC C (In (fR A B))/\C.length<=(fR A B).length/\Below wr.heap.size wr w7):=⟨h1,h2,h3,h4⟩;clear h1 h2 h3 h4)
   go_ret
   have BZ:=aJ BW.out BB.out lz9
   refine⟨_,_,rfl,X7.out.1.mono BZ.size,X7.out.2.1.to fun c=>?_,i8 X7.out.2.2.1 LN.out,aJ BZ X7.out.2.2.2 lz9⟩
   rw [aW7,X5.out.2.1.mem,X6.out.2.1.mem]
end
theorem pD(W:World)(o:Obj):Below W.heap.size W (W.alloc o):=bz9
theorem bL1(m:Bool)(w:World):Calls Tryz.prog 142 #[.bool m] w fun e w'=>∃ v,e=.returned v/\RR w.heap.size w' v (dR m)/\Below w.heap.size w w':=by
 cases m with
 | true=>
  go_enter Tryz.func142,Tryz.ntmps142
  go_wp2
  go_ret
  exact⟨_,rfl,World.ownsRow_lit w #[.int .i64 0,.int .i64 55295,.int .i64 57344,.int .i64 1114111] 2 lz9 (by unfold maxLen;omega) rfl,bz9⟩
 | false=>
  go_enter Tryz.func142,Tryz.ntmps142
  go_wp2
  go_ret
  exact⟨_,rfl,World.ownsRow_lit w #[.int .i64 0,.int .i64 255] 1 lz9 (by unfold maxLen;omega) rfl,bz9⟩
theorem bC3{w:World}{v:Value}{L:List (Int × Int)}{m:Bool}(h:ArgR w v L)(hF:Fit L)(hl:L.length<=1048580) :
  Calls Tryz.prog 116 #[v,.bool m] w (xG w (fun c=>In L c/\bP m c) (L.length * (dR m).length)):=by
 have H:Hid (ArgR w v L/\Fit L):=⟨h,hF⟩
 have hc:=jO m
 have HM:Hid (L.length * (dR m).length+1<=8796093022208):=aD (by have:=Nat.mul_le_mul hl hc;omega)
 clear h hF
 go_enter Tryz.func116,Tryz.ntmps116
 go_wp2_with first
  |(go_at_call 142;refine(bL1 m _).mono ?_;rintro e w5 ⟨v5,rfl,h1,h2⟩;have X5:Hid (RR w.heap.size w5 v5 (dR m)/\Below w.heap.size w w5):=⟨h1,h2⟩;clear h1 h2)
  |(go_at_call 118;refine(aD8 (H.out.1.kept X5.out.2) X5.out.1.arg H.out.2 (kE m).fit (by omega) (by omega) HM.out).mono ?_;rintro e w6 ⟨v6,C6,rfl,h1,h2,h3,h4⟩;have X6:Hid (RR w5.heap.size w6 v6 C6/\IsC C6 (fun c=>In L c/\In (dR m) c)/\C6.length<=L.length * (dR m).length/\Below w5.heap.size w5 w6):=⟨h1,h2,h3,h4⟩;clear h1 h2 h3 h4)
 go_ret
 exact⟨_,_,rfl,X6.out.1.mono X5.out.2.size,X6.out.2.1.to fun c=>by rw [(kE m).mem],X6.out.2.2.1,aJ X5.out.2 X6.out.2.2.2 lz9⟩
theorem aU0{w:World}{v:Value}{L:List (Int × Int)}{m:Bool}(h:ArgR w v L)(hF:Fit L)(hl:L.length<=1048580) :
  Calls Tryz.prog 69 #[v,.bool m] w fun e w'=>∃ b:Bool,e=.returned (.bool b)/\(b=true ↔ IsC L (fun c=>In L c/\bP m c))/\Below w.heap.size w w':=by
 have H:Hid (ArgR w v L/\Fit L):=⟨h,hF⟩
 clear h hF
 go_enter Tryz.func69,Tryz.ntmps69
 go_wp2_with first
  |(go_at_call 116;refine(bC3 H.out.1 H.out.2 hl).mono ?_;rintro e w5 ⟨v5,C5,rfl,h1,h2,h3,h4⟩;have X5:Hid (RR w.heap.size w5 v5 C5/\IsC C5 (fun c=>In L c/\bP m c)/\Below w.heap.size w w5):=⟨h1,h2,h4⟩;clear h1 h2 h3 h4)
  |(go_at_call 71;refine(xE (H.out.1.kept X5.out.2.2) X5.out.1.arg).mono ?_;obtain⟨bb,hbb⟩:∃ bb,decide (L=C5)=bb:=⟨_,rfl⟩;rw [hbb];have EB:Hid (decide (L=C5)=bb):=hbb;clear hbb;rintro e w7 ⟨rfl,h1⟩;have X7:Hid (Below w5.heap.size w5 w7):=h1;clear h1)
 go_ret
 refine⟨bb,rfl,?_,aJ X5.out.2.2 X7.out lz9⟩
 rw [<- EB.out,decide_eq_true_iff]
 constructor
 ·intro e
  have h2:=X5.out.2.1
  rw [<- e] at h2
  exact h2
 ·intro e
  exact e.one X5.out.2.1 fun _=>Iff.rfl
def shL(G:List (Int × Int))(j:Nat)(d:Int):List (Int × Int):=(G.take j).map fun r=>(r.1+d,r.2+d)
theorem yK{G:List (Int × Int)}{j:Nat}{r:Int × Int}(h:G[j]?=some r)(d:Int):shL G (j+1) d=shL G j d ++ [(r.1+d,r.2+d)]:=by
 obtain⟨hk,rfl⟩:=i5.1 h
 unfold shL
 rw [eH G j hk,aAR]
 rfl
theorem aJ2(W:World)(a b:Int):ArgR (W.alloc (.cells #[.int .i64 a,.int .i64 b] 110)) (.slice (some ⟨W.heap.size,0,none⟩) 1 1) [(a,b)]:=
 RR.arg (base:=W.heap.size) (World.ownsRow_lit W #[.int .i64 a,.int .i64 b] 1 lz9 (by unfold maxLen;omega) rfl)
theorem bI1{C L:List (Int × Int)}{a b:Int}(h:IsC C (fun c=>In L c/\In [(a,b)] c)):∀ (i:Nat) (r:Int × Int),C[i]?=some r->(a<=r.1/\r.1<=b)/\(a<=r.2/\r.2<=b):=fun i r hr=>by
 have hm:=i9 hr
 have hs:=h.cls.some r hm
 have p:=((h.mem r.1).1 ⟨r,hm,aAN _,hs⟩).2
 have q:=((h.mem r.2).1 ⟨r,hm,hs,aAN _⟩).2
 rw [eK] at p q
 exact⟨p,q⟩
def aO3(w w4:World)(k:Nat):Prop:=w.heap.size<=k/\k < w4.heap.size
theorem nB{w w':World}{k:Nat}(h:w'.heap[k]?=w.heap[k]?)(o:Nat):w'.cell? ⟨k,o,none⟩=w.cell? ⟨k,o,none⟩:=by unfold World.cell?;simp only [h]
structure FW(w w4 W1 wr:World)(ov:Value)(O:List (Int × Int)):Prop where
 own:RR w.heap.size wr ov O
 fr:Fr (aO3 w w4) W1 wr
 at':∀ g,ov.ownBlock=some g->aO3 w w4 g\/W1.heap.size<=g
theorem FW.drew{w w4 W1 wr:World}{ov:Value}{O:List (Int × Int)}(h:FW w w4 W1 wr ov O):FW w w4 W1 wr.drew ov O:=⟨aBO h.own,h.fr.drew,h.at'⟩
theorem FW.app{w w4 W1 wr w6:World}{q:Option Addr}{co:Nat}{L:List (Int × Int)}{o:Obj}{g6 cap6:Nat}{a b:Int}(h:FW w w4 W1 wr (.slice q L.length co) L)(hg:(wr.alloc o).grownBy w6 (Value.slice q L.length co).ownBlock)
  (ho:w6.ownsRow w.heap.size 110 2 (.slice (some ⟨g6,0,none⟩) (L.length+1) cap6) (L.length+1) (aS L ++ [.int .i64 a,.int .i64 b]))
  (hb:(Value.slice (some ⟨g6,0,none⟩) (L.length+1) cap6).ownBlock=(Value.slice q L.length co).ownBlock\/(Value.slice (some ⟨g6,0,none⟩) (L.length+1) cap6).ownBlock=some (wr.alloc o).heap.size):FW w w4 W1 w6 (.slice (some ⟨g6,0,none⟩) (L.length+1) cap6) (L ++ [(a,b)]):=by
 refine⟨pR ho,?_,fun g e=>?_⟩
 ·refine⟨hg.os.trans h.fr.os,hg.tape.trans h.fr.tape,hg.output.trans h.fr.output,i8 h.fr.size (i8 (by simp) hg.size),fun k hk hs=>?_⟩
  have hkr:k < wr.heap.size:=i6 hk h.fr.size
  refine(hg.block k (by simp;omega) (fun e=>?_)).trans ((Below.heap_alloc _ _ _ hkr).trans (h.fr.block k hk hs))
  rcases h.at' k e.symm with q | q
  ·exact hs q
  ·omega
 ·rcases hb with hb | hb
  ·rw [hb] at e;exact h.at' g e
  ·rw [hb] at e
   cases e
   exact .inr (i8 h.fr.size (by simp))
theorem vF{W:World}{q:Option Addr}{n k:Nat}{L:List (Int × Int)}(h:ArgR W (.slice q n k) L){lo:Nat}(hlo:∀ g,(Value.slice q n k).ownBlock=some g->lo<=g):∀ (i:Nat) (r:Int × Int),L[i]?=some r->∃ g off,q=some ⟨g,off,none⟩/\lo<=g/\g < W.heap.size/\W.cell? ⟨g,off+i * 2,none⟩=some (.int .i64 r.1)/\W.cell? ⟨g,off+i * 2+1,none⟩=some (.int .i64 r.2):=fun i r hi=>by
 obtain⟨q',c',e,-,-,hc⟩:=h.slice
 cases e
 obtain⟨g,off,rfl,h1,h2,h3⟩:=hc i r hi
 rw [aAJ] at h2 h3
 exact⟨g,off,rfl,hlo g rfl,h1,h2,h3⟩
theorem bC5{w:World}{v:Value}{L:List (Int × Int)}(h:ArgR w v L)(hF:Fit L)(hl:L.length<=1048580) :
  Calls Tryz.prog 70 #[v] w (xG w (oV L) (3 * L.length)):=by
 obtain⟨t0,ti,hz0,hz1,hz2⟩:=bH cY
 have H:Hid (ArgR w v L/\Fit L):=⟨h,hF⟩
 clear h hF
 go_enter Tryz.func70,Tryz.ntmps70
 go_upto_region 5 with first
  |(go_at_call 117;refine(lQ H.out.1 H.out.2 (by omega)).mono ?_;rintro e w4 ⟨v4,C,rfl,h1,h2,h3,h4⟩;obtain⟨qc,cc,rfl⟩:=h1.shape;have X4:Hid (RR w.heap.size w4 (.slice qc C.length cc) C/\IsC C (In L)/\C.length<=L.length/\Below w.heap.size w w4):=⟨h1,h2,h3,h4⟩;clear h1 h2 h3 h4)
  |(go_at_call 118;have hx:=X5.out;clear hx;have hih:=aD8 (((H.out.1.kept X4.out.2.2.2).kept X5.out.2.2.2).kept (pD w5 (.cells #[.int .i64 97,.int .i64 122] 110))) (aJ2 w5 97 122) H.out.2 (oW (by omega)) (by omega) (by simp) (by simp;omega);(with_reducible refine hih.mono ?_);clear hih;rintro e w6 ⟨v6,S,rfl,h1,h2,h3,h4⟩;obtain⟨qs,cs,rfl⟩:=h1.shape;have X6:Hid (RR w5.heap.size w6 (.slice qs S.length cs) S/\IsC S (fun c=>In L c/\In [(97,122)] c)/\S.length<=L.length/\Below w5.heap.size w5 w6):=⟨h1.mono (by simp),h2,(by simpa using h3),(pD w5 _).trans (h4.mono (by simp))⟩;clear h1 h2 h3 h4)
  |(go_at_call 118;have hih:=aD8 ((H.out.1.kept X4.out.2.2.2).kept (pD w4 (.cells #[.int .i64 65,.int .i64 90] 110))) (aJ2 w4 65 90) H.out.2 (oW (by omega)) (by omega) (by simp) (by simp;omega);(with_reducible refine hih.mono ?_);clear hih;rintro e w5 ⟨v5,G,rfl,h1,h2,h3,h4⟩;obtain⟨qg,cg,rfl⟩:=h1.shape;have X5:Hid (RR w4.heap.size w5 (.slice qg G.length cg) G/\IsC G (fun c=>In L c/\In [(65,90)] c)/\G.length<=L.length/\Below w4.heap.size w4 w5):=⟨h1.mono (by simp),h2,(by simpa using h3),(pD w4 _).trans (h4.mono (by simp))⟩;clear h1 h2 h3 h4)
 rename World=>W1
 have BTW:Hid (Below w.heap.size w W1):=aJ (aJ X4.out.2.2.2 X5.out.2.2.2 lz9) X6.out.2.2.2 lz9
 have B4W:Hid (Below w4.heap.size w4 W1):=aJ X5.out.2.2.2 X6.out.2.2.2 lz9
 have HGG:Hid _:=vF (X5.out.1.kept X6.out.2.2.2).arg (lo:=w4.heap.size) (fun g e=>(aH X5.out.1 e).1)
 have HGS:Hid _:=vF X6.out.1.arg (lo:=w4.heap.size) (fun g e=>i8 X5.out.2.2.2.size (aH X6.out.1 e).1)
 have BDG:Hid _:=bI1 X5.out.2.1
 have BDS:Hid _:=bI1 X6.out.2.1
 have hcl:=X4.out.2.2.1
 have hgl:=X5.out.2.2.1
 have hsl:=X6.out.2.2.1
 have ST:Hid (FW w w4 W1 W1 (.slice qc C.length cc) C):=⟨X4.out.1.kept B4W.out,Fr.refl _ _,fun g e=>.inl ⟨(aH X4.out.1 e).1,(aH X4.out.1 e).2.1⟩⟩
 go_wp2
 go_loopw [3,6] (fun ov i wr=>∃ j:Nat,j<=G.length/\i=.int .i64 j/\FW w w4 W1 wr ov (C ++ shL G j 32)) (fun _ i _=>G.length - (intOf i).toNat)
 case atStart=>exact⟨0,m9 _,rfl,by simpa [shL] using ST.out⟩
 case round=>
  obtain⟨j,hj,rfl,hW⟩:=hrel
  obtain⟨qo,co,e3⟩:=hW.own.shape
  subst e3
  by_cases hlt:j < G.length
  ·obtain⟨O,hO⟩:∃ O,C ++ shL G j 32=O:=⟨_,rfl⟩
   have EO:Hid (C ++ shL G j 32=O):=hO
   rw [hO] at hW ⊢
   have M0:Hid (FW w w4 W1 wr (.slice qo O.length co) O):=hW
   have hol:O.length+1<=8796093022208:=by rw [<- hO];simp [shL];omega
   clear hW hO
   obtain⟨r,er⟩:∃ r,G[j]?=some r:=⟨_,g9 hlt⟩
   obtain⟨gg,og,rfl,hg4,hgg,z1,z2⟩:=HGG.out j _ er
   have hbd:=BDG.out j r er
   have NXT:Hid (shL G (j+1) (32)=shL G j (32) ++ [(r.1+(32),r.2+(32))]):=yK er (32)
   obtain⟨lo,hi⟩:=r
   dsimp only at z1 z2 hbd NXT
   have wa:IntKind.wrap .i64 (lo+32)=lo+32:=by rw [IntKind.wrap_i64];omega
   have wb:IntKind.wrap .i64 (hi+32)=hi+32:=by rw [IntKind.wrap_i64];omega
   have j0:(0:Int)<=(j:Int):=by omega
   have j1:(j:Int) < (G.length:Int):=by omega
   have QC:Hid (∀ w',Fr (aO3 w w4) W1 w'->w'.cell? ⟨gg,og+j * 2,none⟩=some (.int .i64 lo)/\w'.cell? ⟨gg,og+j * 2+1,none⟩=some (.int .i64 hi)):=fun w' hf=>by
    have hbk:=hf.block gg hgg (fun q=>by have:=q.2;omega)
    exact⟨(nB hbk _).trans z1,(nB hbk _).trans z2⟩
   have MD:Hid (FW w w4 W1 wr.drew (.slice qo O.length co) O):=M0.out.drew
   have hw1:w.heap.size<=wr.heap.size:=i8 BTW.out.size M0.out.fr.size
   clear z1 z2 er
   go_wp2
   refine wp_region_held_drew (S:=fun w'=>Fr (aO3 w w4) W1 w') (by kernel_rfl) MD.out.fr (fun hHeld=>?_)
   refine aCD (v:=?_) 0 ?_ ?_
   rotate_left
   ·intro wz hSw;obtain⟨q1,q2⟩:=QC.out wz hSw;clear hSw;go_simp;try with_reducible rfl
   dsimp only [Act.put,f4,b6,b7]
   simp only [a8,g4,g3]
   refine aCD (v:=?_) 1 ?_ ?_
   rotate_left
   ·intro wz hSw;obtain⟨q1,q2⟩:=QC.out wz hSw;clear hSw;go_simp;try with_reducible rfl
   dsimp only [Act.put,f4,b6,b7]
   simp only [a8,g4,g3]
   refine aCD (v:=?_) 2 ?_ ?_
   rotate_left
   ·intro wz hSw;obtain⟨q1,q2⟩:=QC.out wz hSw;clear hSw;go_simp;try with_reducible rfl
   dsimp only [Act.put,f4,b6,b7]
   simp only [a8,g4,g3]
   refine aCD (v:=?_) 3 ?_ ?_
   rotate_left
   ·intro wz hSw;obtain⟨q1,q2⟩:=QC.out wz hSw;clear hSw;go_simp;try with_reducible rfl
   dsimp only [Act.put,f4,b6,b7]
   simp only [a8,g4,g3]
   refine aCD (v:=?_) 4 ?_ ?_
   rotate_left
   ·intro wz hSw;obtain⟨q1,q2⟩:=QC.out wz hSw;clear hSw;go_simp;try with_reducible rfl
   dsimp only [Act.put,f4,b6,b7]
   simp only [a8,g4,g3]
   refine aCD (v:=?_) 5 ?_ ?_
   rotate_left
   ·intro wz hSw;obtain⟨q1,q2⟩:=QC.out wz hSw;clear hSw;go_simp;try with_reducible rfl
   dsimp only [Act.put,f4,b6,b7]
   simp only [a8,g4,g3]
   refine aCD (v:=?_) 6 ?_ ?_
   rotate_left
   ·intro wz hSw;obtain⟨q1,q2⟩:=QC.out wz hSw;clear hSw;go_simp;try with_reducible rfl
   dsimp only [Act.put,f4,b6,b7]
   simp only [a8,g4,g3]
   refine aCD (v:=?_) 7 ?_ ?_
   rotate_left
   ·intro wz hSw;obtain⟨q1,q2⟩:=QC.out wz hSw;clear hSw;go_simp;try with_reducible rfl
   dsimp only [Act.put,f4,b6,b7]
   simp only [a8,g4,g3]
   refine aCD (v:=?_) 8 ?_ ?_
   rotate_left
   ·intro wz hSw;obtain⟨q1,q2⟩:=QC.out wz hSw;clear hSw;go_simp;try with_reducible rfl
   dsimp only [Act.put,f4,b6,b7]
   simp only [a8,g4,g3]
   refine aCD (v:=?_) 9 ?_ ?_
   rotate_left
   ·intro wz hSw;obtain⟨q1,q2⟩:=QC.out wz hSw;clear hSw;go_simp;try with_reducible rfl
   dsimp only [Act.put,f4,b6,b7]
   simp only [a8,g4,g3]
   refine aCD (v:=?_) 10 ?_ ?_
   rotate_left
   ·intro wz hSw;obtain⟨q1,q2⟩:=QC.out wz hSw;clear hSw;go_simp;try with_reducible rfl
   dsimp only [Act.put,f4,b6,b7]
   simp only [a8,g4,g3]
   refine aCD (v:=?_) 11 ?_ ?_
   rotate_left
   ·intro wz hSw;obtain⟨q1,q2⟩:=QC.out wz hSw;clear hSw;go_simp;try with_reducible rfl
   dsimp only [Act.put,f4,b6,b7]
   simp only [a8,g4,g3]
   refine aCD (v:=?_) 12 ?_ ?_
   rotate_left
   ·intro wz hSw;obtain⟨q1,q2⟩:=QC.out wz hSw;clear hSw;go_simp;try with_reducible rfl
   dsimp only [Act.put,f4,b6,b7]
   simp only [a8,g4,g3]
   refine aCD (v:=?_) 13 ?_ ?_
   rotate_left
   ·intro wz hSw;obtain⟨q1,q2⟩:=QC.out wz hSw;clear hSw;go_simp;try with_reducible rfl
   dsimp only [Act.put,f4,b6,b7]
   simp only [a8,g4,g3]
   refine wpAnyH_ready (rs:=[14]) (by kernel_rfl) (by simp) ?_
   refine AllReadyH.cons rfl (fun K hK=>?_) AllReadyH.nil
   go_simp
   refine hK.out _ _ (MD.out.fr.alloc _) (fun hHeld2=>?_)
   clear hK K
   refine wpAnyH_ready (rs:=[15]) (by kernel_rfl) (by simp) ?_
   refine AllReadyH.cons rfl (fun K hK=>?_) AllReadyH.nil
   refine bF rfl _ _ 22 rfl w.heap.size 110 t0 (.agg #[.int .i64 0,.int .i64 0]) 2 16 bM ti hz0 hz1 hz2 rfl (by decide) (.slice qo O.length co) O.length (aS O) (by simp [Act.eval]) (l9 MD.out.own (.cells #[.int .i64 (lo+32),.int .i64 (hi+32)] 110)) ⟨wr.heap.size,0,none⟩ 1 1 [.int .i64 (lo+32),.int .i64 (hi+32)] (by simp [Act.eval]) rfl (lF _ _ _ _) (by simp [Value.oneCell']) (by unfold maxLen;omega) (by omega) (by simp;omega) ?_
   intro v' w6' hown' hgrow hblk
   obtain⟨g6,cap6,rfl⟩:=aL hown' (aAC _)
   have M6:Hid (FW w w4 W1 w6' (.slice (some ⟨g6,0,none⟩) (O.length+1) cap6) (O ++ [(lo+32,hi+32)])):=MD.out.app hgrow hown' hblk
   clear hown' hgrow hblk
   refine hK.out _ _ M6.out.fr (fun hHeld3=>?_)
   clear hK K
   refine wpAnyH_ready (rs:=[16]) (by kernel_rfl) (by simp) ?_
   refine AllReadyH.cons rfl (fun K hK=>?_) AllReadyH.nil
   go_simp
   refine hK.out _ _ M6.out.fr (fun hHeld4=>?_)
   clear hK K
   refine wpAnyH_done (by kernel_rfl) ?_ _
   go_wp2
   go_roundw
   case rel=>exact⟨j+1,by omega,by go_num,by rw [NXT.out,<- t9,EO.out];exact M6.out⟩
   case measure=>simp [intOf];omega
  ·have j1:¬ (j:Int) < (G.length:Int):=by omega
   have EJ:Hid (shL G j 32=shL G G.length 32):=aD (by unfold shL;rw [j9 (by omega),aAQ])
   rw [EJ.out] at hW ⊢
   obtain⟨C2,hC2⟩:∃ C2,C ++ shL G G.length 32=C2:=⟨_,rfl⟩
   have EC:Hid (C ++ shL G G.length 32=C2):=hC2
   have hc2:C2.length<=2 * L.length:=by rw [<- hC2];simp [shL];omega
   rw [hC2] at hW ⊢
   have ST2:Hid (FW w w4 W1 wr (.slice qo C2.length co) C2):=hW
   clear hW hC2
   rename World=>W5
   go_wp2
   go_loopw [3,7] (fun ov i wr=>∃ j:Nat,j<=S.length/\i=.int .i64 j/\FW w w4 W1 wr ov (C2 ++ shL S j (-32))) (fun _ i _=>S.length - (intOf i).toNat)
   case atStart=>exact⟨0,m9 _,rfl,by simpa [shL] using ST2.out⟩
   case round=>
    clear ST2
    obtain⟨j,hj,rfl,hW⟩:=hrel
    obtain⟨qo,co,e3⟩:=hW.own.shape
    subst e3
    by_cases hlt:j < S.length
    ·obtain⟨O,hO⟩:∃ O,C2 ++ shL S j (-32)=O:=⟨_,rfl⟩
     have EO:Hid (C2 ++ shL S j (-32)=O):=hO
     rw [hO] at hW ⊢
     have M0:Hid (FW w w4 W1 wr (.slice qo O.length co) O):=hW
     have hol:O.length+1<=8796093022208:=by rw [<- hO];simp [shL];omega
     clear hW hO
     obtain⟨r,er⟩:∃ r,S[j]?=some r:=⟨_,g9 hlt⟩
     obtain⟨gg,og,rfl,hg4,hgg,z1,z2⟩:=HGS.out j _ er
     have hbd:=BDS.out j r er
     have NXT:Hid (shL S (j+1) (-32)=shL S j (-32) ++ [(r.1+(-32),r.2+(-32))]):=yK er (-32)
     obtain⟨lo,hi⟩:=r
     dsimp only at z1 z2 hbd NXT
     have wa:IntKind.wrap .i64 (lo - 32)=lo - 32:=by rw [IntKind.wrap_i64];omega
     have wb:IntKind.wrap .i64 (hi - 32)=hi - 32:=by rw [IntKind.wrap_i64];omega
     have j0:(0:Int)<=(j:Int):=by omega
     have j1:(j:Int) < (S.length:Int):=by omega
     have QC:Hid (∀ w',Fr (aO3 w w4) W1 w'->w'.cell? ⟨gg,og+j * 2,none⟩=some (.int .i64 lo)/\w'.cell? ⟨gg,og+j * 2+1,none⟩=some (.int .i64 hi)):=fun w' hf=>by
      have hbk:=hf.block gg hgg (fun q=>by have:=q.2;omega)
      exact⟨(nB hbk _).trans z1,(nB hbk _).trans z2⟩
     have MD:Hid (FW w w4 W1 wr.drew (.slice qo O.length co) O):=M0.out.drew
     have hw1:w.heap.size<=wr.heap.size:=i8 BTW.out.size M0.out.fr.size
     clear z1 z2 er
     go_wp2
     refine wp_region_held_drew (S:=fun w'=>Fr (aO3 w w4) W1 w') (by kernel_rfl) MD.out.fr (fun hHeld=>?_)
     refine aCD (v:=?_) 0 ?_ ?_
     rotate_left
     ·intro wz hSw;obtain⟨q1,q2⟩:=QC.out wz hSw;clear hSw;go_simp;try with_reducible rfl
     dsimp only [Act.put,f4,b6,b7]
     simp only [a8,g4,g3]
     refine aCD (v:=?_) 1 ?_ ?_
     rotate_left
     ·intro wz hSw;obtain⟨q1,q2⟩:=QC.out wz hSw;clear hSw;go_simp;try with_reducible rfl
     dsimp only [Act.put,f4,b6,b7]
     simp only [a8,g4,g3]
     refine aCD (v:=?_) 2 ?_ ?_
     rotate_left
     ·intro wz hSw;obtain⟨q1,q2⟩:=QC.out wz hSw;clear hSw;go_simp;try with_reducible rfl
     dsimp only [Act.put,f4,b6,b7]
     simp only [a8,g4,g3]
     refine aCD (v:=?_) 3 ?_ ?_
     rotate_left
     ·intro wz hSw;obtain⟨q1,q2⟩:=QC.out wz hSw;clear hSw;go_simp;try with_reducible rfl
     dsimp only [Act.put,f4,b6,b7]
     simp only [a8,g4,g3]
     refine aCD (v:=?_) 4 ?_ ?_
     rotate_left
     ·intro wz hSw;obtain⟨q1,q2⟩:=QC.out wz hSw;clear hSw;go_simp;try with_reducible rfl
     dsimp only [Act.put,f4,b6,b7]
     simp only [a8,g4,g3]
     refine aCD (v:=?_) 5 ?_ ?_
     rotate_left
     ·intro wz hSw;obtain⟨q1,q2⟩:=QC.out wz hSw;clear hSw;go_simp;try with_reducible rfl
     dsimp only [Act.put,f4,b6,b7]
     simp only [a8,g4,g3]
     refine aCD (v:=?_) 6 ?_ ?_
     rotate_left
     ·intro wz hSw;obtain⟨q1,q2⟩:=QC.out wz hSw;clear hSw;go_simp;try with_reducible rfl
     dsimp only [Act.put,f4,b6,b7]
     simp only [a8,g4,g3]
     refine aCD (v:=?_) 7 ?_ ?_
     rotate_left
     ·intro wz hSw;obtain⟨q1,q2⟩:=QC.out wz hSw;clear hSw;go_simp;try with_reducible rfl
     dsimp only [Act.put,f4,b6,b7]
     simp only [a8,g4,g3]
     refine aCD (v:=?_) 8 ?_ ?_
     rotate_left
     ·intro wz hSw;obtain⟨q1,q2⟩:=QC.out wz hSw;clear hSw;go_simp;try with_reducible rfl
     dsimp only [Act.put,f4,b6,b7]
     simp only [a8,g4,g3]
     refine aCD (v:=?_) 9 ?_ ?_
     rotate_left
     ·intro wz hSw;obtain⟨q1,q2⟩:=QC.out wz hSw;clear hSw;go_simp;try with_reducible rfl
     dsimp only [Act.put,f4,b6,b7]
     simp only [a8,g4,g3]
     refine aCD (v:=?_) 10 ?_ ?_
     rotate_left
     ·intro wz hSw;obtain⟨q1,q2⟩:=QC.out wz hSw;clear hSw;go_simp;try with_reducible rfl
     dsimp only [Act.put,f4,b6,b7]
     simp only [a8,g4,g3]
     refine aCD (v:=?_) 11 ?_ ?_
     rotate_left
     ·intro wz hSw;obtain⟨q1,q2⟩:=QC.out wz hSw;clear hSw;go_simp;try with_reducible rfl
     dsimp only [Act.put,f4,b6,b7]
     simp only [a8,g4,g3]
     refine aCD (v:=?_) 12 ?_ ?_
     rotate_left
     ·intro wz hSw;obtain⟨q1,q2⟩:=QC.out wz hSw;clear hSw;go_simp;try with_reducible rfl
     dsimp only [Act.put,f4,b6,b7]
     simp only [a8,g4,g3]
     refine aCD (v:=?_) 13 ?_ ?_
     rotate_left
     ·intro wz hSw;obtain⟨q1,q2⟩:=QC.out wz hSw;clear hSw;go_simp;try with_reducible rfl
     dsimp only [Act.put,f4,b6,b7]
     simp only [a8,g4,g3]
     refine wpAnyH_ready (rs:=[14]) (by kernel_rfl) (by simp) ?_
     refine AllReadyH.cons rfl (fun K hK=>?_) AllReadyH.nil
     go_simp
     refine hK.out _ _ (MD.out.fr.alloc _) (fun hHeld2=>?_)
     clear hK K
     refine wpAnyH_ready (rs:=[15]) (by kernel_rfl) (by simp) ?_
     refine AllReadyH.cons rfl (fun K hK=>?_) AllReadyH.nil
     refine bF rfl _ _ 22 rfl w.heap.size 110 t0 (.agg #[.int .i64 0,.int .i64 0]) 2 16 bM ti hz0 hz1 hz2 rfl (by decide) (.slice qo O.length co) O.length (aS O) (by simp [Act.eval]) (l9 MD.out.own (.cells #[.int .i64 (lo - 32),.int .i64 (hi - 32)] 110)) ⟨wr.heap.size,0,none⟩ 1 1 [.int .i64 (lo - 32),.int .i64 (hi - 32)] (by simp [Act.eval]) rfl (lF _ _ _ _) (by simp [Value.oneCell']) (by unfold maxLen;omega) (by omega) (by simp;omega) ?_
     intro v' w6' hown' hgrow hblk
     obtain⟨g6,cap6,rfl⟩:=aL hown' (aAC _)
     have M6:Hid (FW w w4 W1 w6' (.slice (some ⟨g6,0,none⟩) (O.length+1) cap6) (O ++ [(lo - 32,hi - 32)])):=MD.out.app hgrow hown' hblk
     clear hown' hgrow hblk
     refine hK.out _ _ M6.out.fr (fun hHeld3=>?_)
     clear hK K
     refine wpAnyH_ready (rs:=[16]) (by kernel_rfl) (by simp) ?_
     refine AllReadyH.cons rfl (fun K hK=>?_) AllReadyH.nil
     go_simp
     refine hK.out _ _ M6.out.fr (fun hHeld4=>?_)
     clear hK K
     refine wpAnyH_done (by kernel_rfl) ?_ _
     go_wp2
     go_roundw
     case rel=>exact⟨j+1,by omega,by go_num,by rw [NXT.out,<- t9,EO.out];exact M6.out⟩
     case measure=>simp [intOf];omega
    ·have j1:¬ (j:Int) < (S.length:Int):=by omega
     have EJ:Hid (shL S j (-32)=S.map fun r:Int × Int=>(r.1+-32,r.2+-32)):=aD (by unfold shL;rw [j9 (by omega)])
     have EG:Hid (C2=C ++ G.map fun r:Int × Int=>(r.1+32,r.2+32)):=aD (by rw [<- EC.out];unfold shL;rw [aAQ])
     rw [EJ.out] at hW ⊢
     have MZ:Hid _:=hW
     have FZ:Hid (Fit (C2 ++ S.map fun r:Int × Int=>(r.1+-32,r.2+-32))):=aD (by
      rw [EG.out]
      refine eA (eA X4.out.2.1.fit fun r hr=>?_) fun r hr=>?_
      ·obtain⟨x,hx,e⟩:=aAM.1 hr
       subst e
       obtain⟨i,hi⟩:=List.getElem?_of_mem hx
       have:=BDG.out i x hi
       simp only
       omega
      ·obtain⟨x,hx,e⟩:=aAM.1 hr
       subst e
       obtain⟨i,hi⟩:=List.getElem?_of_mem hx
       have:=BDS.out i x hi
       simp only
       omega)
     have LZ:Hid ((C2 ++ S.map fun r:Int × Int=>(r.1+-32,r.2+-32)).length<=3 * L.length):=aD (by simp;omega)
     have IZ:Hid (∀ c,In (C2 ++ S.map fun r:Int × Int=>(r.1+-32,r.2+-32)) c ↔ oV L c):=fun c=>by
      rw [EG.out,cH,cH,kV,kV,X4.out.2.1.mem,X5.out.2.1.mem,X6.out.2.1.mem,eK,eK]
      unfold oV
      rw [show c - -32=c+32 by omega,or_assoc]
     clear hW
     generalize (C2 ++ S.map fun r:Int × Int=>(r.1+-32,r.2+-32))=Z at *
     go_wp2_with (go_at_call 117;refine(lQ MZ.out.own.arg FZ.out (by have:=LZ.out;omega)).mono ?_;rintro e w7 ⟨v7,D,rfl,h1,h2,h3,h4⟩;have X7:Hid (RR wr.heap.size w7 v7 D/\IsC D (In Z)/\D.length<=Z.length/\Below wr.heap.size wr w7):=⟨h1,h2,h3,h4⟩;clear h1 h2 h3 h4)
     go_ret
     have BZ:Below w.heap.size w wr:=bC BTW.out MZ.out.fr lz9 (fun k hk=>hk.1)
     exact⟨_,_,rfl,X7.out.1.mono BZ.size,X7.out.2.1.to IZ.out,i8 X7.out.2.2.1 LZ.out,aJ BZ X7.out.2.2.2 lz9⟩
theorem bB5{c f:Bool}{L C:List (Int × Int)}(hC:IsC C (oV L)):oE c f L ↔ (IsC L (fun x=>In L x/\bP c x)/\(f=true->L=C)):=by
 constructor
 ·rintro ⟨h1,h2⟩
  refine⟨h1,fun hf=>?_⟩
  have h3:IsC L (oV L):=⟨h1.cls,h1.fit,h2 hf⟩
  exact h3.one hC (fun _=>Iff.rfl)
 ·rintro ⟨h1,h2⟩
  refine⟨h1,fun hf x=>?_⟩
  have e:=h2 hf
  rw [<- e] at hC
  exact hC.mem x
theorem bA8{c f:Bool}{t:Tr}{k:Int}(hk:t.f.k=k):fO c f t ↔ (if k=1\/k=3\/k=4 then t.f.n=0/\t.f.mn=0/\t.f.mx=0/\t.f.rs.length=0/\t.ks.length=0
 else if k=2 then oE c f t.f.rs/\t.f.n=0/\t.f.mn=0/\t.f.mx=0/\t.ks.length=0
 else if k=5\/k=6 then 1 < t.ks.length/\t.f.n=0/\t.f.mn=0/\t.f.mx=0/\t.f.rs.length=0
 else if k=7 then t.ks.length=1/\t.f.mn=0/\t.f.mx=0/\t.f.rs.length=0
 else if k=8 then (1<=t.f.n/\t.f.n<=9)/\t.f.mn=0/\t.f.mx=0/\t.f.rs.length=0/\t.ks.length=0
 else if k=9 then fU t.f.mn t.f.mx=true/\t.ks.length=1/\t.f.n=0/\t.f.rs.length=0
 else False):=by
 unfold fO
 rw [hk]
def FormedP(c f:Bool)(p:Way)(t:Tr)(w:World)(e:Ending)(w':World):Prop:=∃ b:Bool,e=.returned (.bool b)/\(b=true ↔ cB c f p t)/\Below w.heap.size w w'
theorem FormedP.mk{c f:Bool}{p:Way}{t:Tr}{w w':World}{e:Ending}(b:Bool)(h1:e=.returned (.bool b))(h2:b=true ↔ cB c f p t)(h3:Below w.heap.size w w'):FormedP c f p t w e w':=⟨b,h1,h2,h3⟩
theorem bC4(p:Way)(t:Tr)(o:Nat)(c f:Bool){w:World}(hn:NB w t)(hrl:t.f.rs.length<=1048580) :
  Calls Tryz.prog 37 #[.agg #[.int .i64 t.f.k,.int .i64 t.f.n,.int .i64 t.f.mn,.int .i64 t.f.mx,.slice t.f.rq t.f.rs.length t.f.rc,.slice t.f.kq t.f.kl t.f.kc,.int .i64 ((p.length:Int)+1),.int .i64 (arP p),.bool (fiP p),.bool (laP p),.bool (brP p),.int .i64 (o:Int)],.agg #[.bool c,.bool f]] w fun e w'=>FormedP c f p t w e w':=by
 have HNA:=aD hn
 have hkl:=hn.kl
 have HKL:=aD hkl
 obtain⟨qk,ck,ek,hkm,-,-⟩:=hn.k.slice
 have hkm':t.f.kl<=9223372036854775807:=by rw [hkl];exact hkm
 have HF:=aD hn.fit
 have B0:Hid (Below w.heap.size w ((w.alloc (.cells #[.int .i64 t.f.k,.int .i64 t.f.n,.int .i64 t.f.mn,.int .i64 t.f.mx,.slice t.f.rq t.f.rs.length t.f.rc,.slice t.f.kq t.f.kl t.f.kc,.int .i64 ((p.length:Int)+1),.int .i64 (arP p),.bool (fiP p),.bool (laP p),.bool (brP p),.int .i64 (o:Int)] 65)).alloc (.cells #[.bool c,.bool f] 27))):=(bz9).alloc (by simp) _
 have P0:Hid (((w.alloc (.cells #[.int .i64 t.f.k,.int .i64 t.f.n,.int .i64 t.f.mn,.int .i64 t.f.mx,.slice t.f.rq t.f.rs.length t.f.rc,.slice t.f.kq t.f.kl t.f.kc,.int .i64 ((p.length:Int)+1),.int .i64 (arP p),.bool (fiP p),.bool (laP p),.bool (brP p),.int .i64 (o:Int)] 65)).alloc (.cells #[.bool c,.bool f] 27)).heap[w.heap.size]?=some (.cells #[.int .i64 t.f.k,.int .i64 t.f.n,.int .i64 t.f.mn,.int .i64 t.f.mx,.slice t.f.rq t.f.rs.length t.f.rc,.slice t.f.kq t.f.kl t.f.kc,.int .i64 ((p.length:Int)+1),.int .i64 (arP p),.bool (fiP p),.bool (laP p),.bool (brP p),.int .i64 (o:Int)] 65 (0,0))):=(Below.heap_alloc _ _ _ (by simp)).trans (aE w _)
 have M0:Hid (((w.alloc (.cells #[.int .i64 t.f.k,.int .i64 t.f.n,.int .i64 t.f.mn,.int .i64 t.f.mx,.slice t.f.rq t.f.rs.length t.f.rc,.slice t.f.kq t.f.kl t.f.kc,.int .i64 ((p.length:Int)+1),.int .i64 (arP p),.bool (fiP p),.bool (laP p),.bool (brP p),.int .i64 (o:Int)] 65)).alloc (.cells #[.bool c,.bool f] 27)).heap[w.heap.size+1]?=some (.cells #[.bool c,.bool f] 27 (0,0))):=(by
  have:=aE (w.alloc (.cells #[.int .i64 t.f.k,.int .i64 t.f.n,.int .i64 t.f.mn,.int .i64 t.f.mx,.slice t.f.rq t.f.rs.length t.f.rc,.slice t.f.kq t.f.kl t.f.kc,.int .i64 ((p.length:Int)+1),.int .i64 (arP p),.bool (fiP p),.bool (laP p),.bool (brP p),.int .i64 (o:Int)] 65)) (.cells #[.bool c,.bool f] 27)
  rwa [a7] at this)
 clear hn hkl ek hkm
 go_enter Tryz.func37,Tryz.ntmps37
 go_upto_region 1 with fail
 generalize ((w.alloc (.cells #[.int .i64 t.f.k,.int .i64 t.f.n,.int .i64 t.f.mn,.int .i64 t.f.mx,.slice t.f.rq t.f.rs.length t.f.rc,.slice t.f.kq t.f.kl t.f.kc,.int .i64 ((p.length:Int)+1),.int .i64 (arP p),.bool (fiP p),.bool (laP p),.bool (brP p),.int .i64 (o:Int)] 65)).alloc (.cells #[.bool c,.bool f] 27))=W0 at B0 P0 M0 ⊢
 generalize w.heap.size+1=bm at M0 ⊢
 have p0:W0.cell? ⟨w.heap.size,0,none⟩=some (.int .i64 t.f.k):=aA P0.out (i:=0) rfl
 have p1:W0.cell? ⟨w.heap.size,1,none⟩=some (.int .i64 t.f.n):=aA P0.out (i:=1) rfl
 have p2:W0.cell? ⟨w.heap.size,2,none⟩=some (.int .i64 t.f.mn):=aA P0.out (i:=2) rfl
 have p3:W0.cell? ⟨w.heap.size,3,none⟩=some (.int .i64 t.f.mx):=aA P0.out (i:=3) rfl
 have p4:W0.cell? ⟨w.heap.size,4,none⟩=some (.slice t.f.rq t.f.rs.length t.f.rc):=aA P0.out (i:=4) rfl
 have p5:W0.cell? ⟨w.heap.size,5,none⟩=some (.slice t.f.kq t.f.kl t.f.kc):=aA P0.out (i:=5) rfl
 have p6:W0.cell? ⟨w.heap.size,6,none⟩=some (.int .i64 ((p.length:Int)+1)):=aA P0.out (i:=6) rfl
 have p7:W0.cell? ⟨w.heap.size,7,none⟩=some (.int .i64 (arP p)):=aA P0.out (i:=7) rfl
 have p8:W0.cell? ⟨w.heap.size,8,none⟩=some (.bool (fiP p)):=aA P0.out (i:=8) rfl
 have p9:W0.cell? ⟨w.heap.size,9,none⟩=some (.bool (laP p)):=aA P0.out (i:=9) rfl
 have p10:W0.cell? ⟨w.heap.size,10,none⟩=some (.bool (brP p)):=aA P0.out (i:=10) rfl
 have p11:W0.cell? ⟨w.heap.size,11,none⟩=some (.int .i64 (o:Int)):=aA P0.out (i:=11) rfl
 go_upto_region 2 with fail
 have K1:Below W0.heap.size W0 (W0.alloc (.cells #[.int .i64 t.f.k,.int .i64 t.f.n,.int .i64 t.f.mn,.int .i64 t.f.mx,.slice t.f.rq t.f.rs.length t.f.rc,.slice t.f.kq t.f.kl t.f.kc] 25)):=bz9
 have N1:=aD (aE W0 (.cells #[.int .i64 t.f.k,.int .i64 t.f.n,.int .i64 t.f.mn,.int .i64 t.f.mx,.slice t.f.rq t.f.rs.length t.f.rc,.slice t.f.kq t.f.kl t.f.kc] 25))
 have P1:=aD ((K1.block _ (aB P0.out)).trans P0.out)
 have M1:=aD ((K1.block _ (aB M0.out)).trans M0.out)
 have B1:=aD (aJ B0.out K1 lz9)
 clear K1 B0 P0 M0 p0 p1 p2 p3 p4 p5 p6 p7 p8 p9 p10 p11
 generalize (W0.alloc (.cells #[.int .i64 t.f.k,.int .i64 t.f.n,.int .i64 t.f.mn,.int .i64 t.f.mx,.slice t.f.rq t.f.rs.length t.f.rc,.slice t.f.kq t.f.kl t.f.kc] 25))=W1 at N1 P1 M1 B1 ⊢
 generalize W0.heap.size=bn at N1 ⊢
 have p0:W1.cell? ⟨w.heap.size,0,none⟩=some (.int .i64 t.f.k):=aA P1.out (i:=0) rfl
 have p1:W1.cell? ⟨w.heap.size,1,none⟩=some (.int .i64 t.f.n):=aA P1.out (i:=1) rfl
 have p2:W1.cell? ⟨w.heap.size,2,none⟩=some (.int .i64 t.f.mn):=aA P1.out (i:=2) rfl
 have p3:W1.cell? ⟨w.heap.size,3,none⟩=some (.int .i64 t.f.mx):=aA P1.out (i:=3) rfl
 have p4:W1.cell? ⟨w.heap.size,4,none⟩=some (.slice t.f.rq t.f.rs.length t.f.rc):=aA P1.out (i:=4) rfl
 have p5:W1.cell? ⟨w.heap.size,5,none⟩=some (.slice t.f.kq t.f.kl t.f.kc):=aA P1.out (i:=5) rfl
 have p6:W1.cell? ⟨w.heap.size,6,none⟩=some (.int .i64 ((p.length:Int)+1)):=aA P1.out (i:=6) rfl
 have p7:W1.cell? ⟨w.heap.size,7,none⟩=some (.int .i64 (arP p)):=aA P1.out (i:=7) rfl
 have p8:W1.cell? ⟨w.heap.size,8,none⟩=some (.bool (fiP p)):=aA P1.out (i:=8) rfl
 have p9:W1.cell? ⟨w.heap.size,9,none⟩=some (.bool (laP p)):=aA P1.out (i:=9) rfl
 have p10:W1.cell? ⟨w.heap.size,10,none⟩=some (.bool (brP p)):=aA P1.out (i:=10) rfl
 have p11:W1.cell? ⟨w.heap.size,11,none⟩=some (.int .i64 (o:Int)):=aA P1.out (i:=11) rfl
 have ST:=aD (bB7 p t o W1)
 obtain⟨s,hs⟩:∃ s,mP p t.f.k=s:=⟨_,rfl⟩
 rw [hs] at ST
 have HS:=aD hs
 clear hs
 go_upto_region 3 with (go_at_call 67;(with_reducible refine(ST.out).mono ?_);rintro e W2 ⟨rfl,h2⟩;have B2:=aD (aJ B1.out h2 lz9);have N2:=aD ((h2.block _ (aB N1.out)).trans N1.out);have M2:=aD ((h2.block _ (aB M1.out)).trans M1.out);clear h2)
 clear p0 p1 p2 p3 p4 p5 p6 p7 p8 p9 p10 p11 N1 P1 M1 B1 ST
 cases s with
 | false=>
  go_wp2
  go_ret
  exact FormedP.mk false rfl (⟨fun z=>(by cases z),fun z=>by have:=z.1;rw [HS.out] at this;cases this⟩) B2.out
 | true=>
  have FT:Hid (cB c f p t ↔ fO c f t):=⟨fun z=>z.2,fun z=>⟨HS.out,z⟩⟩
  obtain⟨n0,n1,n2,n3,n4,n5⟩:=(show BoxN W2 bn t.f from N2.out).six
  simp only [g8] at n1 n2 n3 n4 n5
  have m0:W2.cell? ⟨bm,0,none⟩=some (.bool c):=aA M2.out (i:=0) rfl
  have m1:W2.cell? ⟨bm,1,none⟩=some (.bool f):=aA M2.out (i:=1) rfl
  obtain⟨k,hk⟩:∃ k,t.f.k=k:=⟨_,rfl⟩
  have TK:=aD (bA8 (c:=c) (f:=f) hk)
  have HKK:=aD hk
  obtain⟨ln,hln⟩:∃ ln,t.f.kl=ln:=⟨_,rfl⟩
  have HLN:=aD hln
  clear hk hln
  by_cases h1:k=1\/k=3\/k=4
  ·have BR:=aD (fun W=>aN8 t.f W)
   obtain⟨br,hbr⟩:∃ br,decide (t.f.n=0/\t.f.mn=0/\t.f.mx=0/\t.f.rs.length=0/\t.f.kl=0)=br:=⟨_,rfl⟩
   rw [hbr] at BR
   have HBR:=aD hbr
   clear hbr
   have HI:=aD (show br=true ↔ cB c f p t by
    rw [<- HBR.out,FT.out,TK.out,if_pos h1,aBC,HKL.out])
   rcases h1 with h1 | h1 | h1
   ·have q1:(t.f.k==1)=true:=beq_iff_eq.2 (by rw [HKK.out];omega)
    clear h1
    go_wp2_with (go_at_call 68;(with_reducible refine(BR.out _).mono ?_);rintro e W8 ⟨rfl,h8⟩;have B8:=aD (aJ B2.out h8 lz9);clear h8)
    go_ret
    exact FormedP.mk br rfl (HI.out) B8.out
   ·have q1:(t.f.k==1)=false:=i4.2 (by rw [HKK.out];omega)
    have q3:(t.f.k==3)=true:=beq_iff_eq.2 (by rw [HKK.out];omega)
    clear h1
    go_wp2_with (go_at_call 68;(with_reducible refine(BR.out _).mono ?_);rintro e W8 ⟨rfl,h8⟩;have B8:=aD (aJ B2.out h8 lz9);clear h8)
    go_ret
    exact FormedP.mk br rfl (HI.out) B8.out
   ·have q1:(t.f.k==1)=false:=i4.2 (by rw [HKK.out];omega)
    have q3:(t.f.k==3)=false:=i4.2 (by rw [HKK.out];omega)
    have q4:(t.f.k==4)=true:=beq_iff_eq.2 (by rw [HKK.out];omega)
    clear h1
    go_wp2_with (go_at_call 68;(with_reducible refine(BR.out _).mono ?_);rintro e W8 ⟨rfl,h8⟩;have B8:=aD (aJ B2.out h8 lz9);clear h8)
    go_ret
    exact FormedP.mk br rfl (HI.out) B8.out
  by_cases h2:k=2
  ·have BR:=aD (fun W=>aN6 t.f W)
   obtain⟨br,hbr⟩:∃ br,decide (t.f.n=0/\t.f.mn=0/\t.f.mx=0/\t.f.kl=0)=br:=⟨_,rfl⟩
   rw [hbr] at BR
   have HBR:=aD hbr
   clear hbr
   have q1:(t.f.k==1)=false:=i4.2 (by rw [HKK.out];omega)
   have q3:(t.f.k==3)=false:=i4.2 (by rw [HKK.out];omega)
   have q4:(t.f.k==4)=false:=i4.2 (by rw [HKK.out];omega)
   have q2:(t.f.k==2)=true:=beq_iff_eq.2 (by rw [HKK.out];omega)
   have RC:=aD (aU0 (m:=c) (HNA.out.ck (CK.of_below B2.out)).r HF.out hrl)
   go_upto_region 12 with (go_at_call 69;(with_reducible refine(RC.out).mono ?_);rintro e W3 ⟨b3,rfl,hb3,h3⟩;have I3:=aD hb3;have B3:=aD (aJ B2.out h3 lz9);have N3:=aD ((h3.block _ (aB N2.out)).trans N2.out);have M3:=aD ((h3.block _ (aB M2.out)).trans M2.out);clear hb3 h3)
   clear n0 n1 n2 n3 n4 n5 m0 m1
   have n4:W3.cell? ⟨bn,4,none⟩=some (.slice t.f.rq t.f.rs.length t.f.rc):=(show BoxN W3 bn t.f from N3.out).six.2.2.2.2.1
   have FC:=aD (bC5 (HNA.out.ck (CK.of_below B3.out)).r HF.out hrl)
   go_upto_region 13 with (go_at_call 70;(with_reducible refine(FC.out).mono ?_);rintro e W4 ⟨v4,C,rfl,h41,h42,h43,h44⟩;obtain⟨q4,k4,rfl⟩:=h41.shape;have X4:=aD h41;have I4:=aD h42;have B4:=aD (aJ B3.out h44 lz9);have N4:=aD ((h44.block _ (aB N3.out)).trans N3.out);have M4:=aD ((h44.block _ (aB M3.out)).trans M3.out);clear h41 h42 h43 h44)
   clear n4
   have n4:W4.cell? ⟨bn,4,none⟩=some (.slice t.f.rq t.f.rs.length t.f.rc):=(show BoxN W4 bn t.f from N4.out).six.2.2.2.2.1
   have AK:=aD (xE (HNA.out.ck (CK.of_below B4.out)).r X4.out.arg)
   obtain⟨aa,haa⟩:∃ aa,decide (t.f.rs=C)=aa:=⟨_,rfl⟩
   rw [haa] at AK
   have HAA:=aD haa
   clear haa
   go_upto_region 14 with (go_at_call 71;(with_reducible refine(AK.out).mono ?_);rintro e W5 ⟨rfl,h5⟩;have B5:=aD (aJ B4.out h5 lz9);have N5:=aD ((h5.block _ (aB N4.out)).trans N4.out);have M5:=aD ((h5.block _ (aB M4.out)).trans M4.out);clear h5)
   clear n4
   obtain⟨n0,n1,n2,n3,n4,n5⟩:=(show BoxN W5 bn t.f from N5.out).six
   simp only [g8] at n1 n2 n3 n4 n5
   have m1:W5.cell? ⟨bm,1,none⟩=some (.bool f):=aA M5.out (i:=1) rfl
   have HI:=aD (show ((b3=true/\(f=true->aa=true))/\br=true) ↔ cB c f p t by
    rw [<- HBR.out,FT.out,TK.out,if_neg h1,if_pos h2,aBC,HKL.out,bB5 I4.out,I3.out,<- HAA.out,aBC])
   clear h1 h2 RC FC AK
   cases b3 with
   | false=>
    have HI2:=aD (show false=true ↔ cB c f p t from ⟨fun z=>(by cases z),fun z=>(HI.out.2 z).1.1⟩)
    go_wp2
    go_ret
    exact FormedP.mk false rfl (HI2.out) B5.out
   | true=>
    cases f with
    | false=>
     have HI2:=aD (show br=true ↔ cB c false p t from ⟨fun z=>HI.out.1 ⟨⟨rfl,fun q=>(by cases q)⟩,z⟩,fun z=>(HI.out.2 z).2⟩)
     go_wp2_with (go_at_call 68;(with_reducible refine(BR.out _).mono ?_);rintro e W8 ⟨rfl,h8⟩;have B8:=aD (aJ B5.out h8 lz9);clear h8)
     go_ret
     exact FormedP.mk br rfl (HI2.out) B8.out
    | true=>
     cases aa with
     | false=>
      have HI2:=aD (show false=true ↔ cB c true p t from ⟨fun z=>(by cases z),fun z=>(HI.out.2 z).1.2 rfl⟩)
      go_wp2
      go_ret
      exact FormedP.mk false rfl (HI2.out) B5.out
     | true=>
      have HI2:=aD (show br=true ↔ cB c true p t from ⟨fun z=>HI.out.1 ⟨⟨rfl,fun _=>rfl⟩,z⟩,fun z=>(HI.out.2 z).2⟩)
      go_wp2_with (go_at_call 68;(with_reducible refine(BR.out _).mono ?_);rintro e W8 ⟨rfl,h8⟩;have B8:=aD (aJ B5.out h8 lz9);clear h8)
      go_ret
      exact FormedP.mk br rfl (HI2.out) B8.out
  by_cases h56:k=5\/k=6
  ·have BR:=aD (fun W=>aN7 t.f W)
   obtain⟨br,hbr⟩:∃ br,decide (t.f.n=0/\t.f.mn=0/\t.f.mx=0/\t.f.rs.length=0)=br:=⟨_,rfl⟩
   rw [hbr] at BR
   have HBR:=aD hbr
   clear hbr
   have HI:=aD (show (1 < ln/\br=true) ↔ cB c f p t by
    rw [<- HBR.out,FT.out,TK.out,if_neg h1,if_neg h2,if_pos h56,aBC,<- HLN.out,HKL.out])
   by_cases hl:1 < ln
   ·have el:(1:Int) < (t.f.kl:Int):=by rw [HLN.out];omega
    have HI2:=aD (show br=true ↔ cB c f p t from ⟨fun z=>HI.out.1 ⟨hl,z⟩,fun z=>(HI.out.2 z).2⟩)
    clear hl
    rcases h56 with h5 | h5
    ·have q1:(t.f.k==1)=false:=i4.2 (by rw [HKK.out];omega)
     have q3:(t.f.k==3)=false:=i4.2 (by rw [HKK.out];omega)
     have q4:(t.f.k==4)=false:=i4.2 (by rw [HKK.out];omega)
     have q2:(t.f.k==2)=false:=i4.2 (by rw [HKK.out];omega)
     have q5:(t.f.k==5)=true:=beq_iff_eq.2 (by rw [HKK.out];omega)
     clear h5 h1 h2
     go_wp2_with (go_at_call 68;(with_reducible refine(BR.out _).mono ?_);rintro e W8 ⟨rfl,h8⟩;have B8:=aD (aJ B2.out h8 lz9);clear h8)
     go_ret
     exact FormedP.mk br rfl (HI2.out) B8.out
    ·have q1:(t.f.k==1)=false:=i4.2 (by rw [HKK.out];omega)
     have q3:(t.f.k==3)=false:=i4.2 (by rw [HKK.out];omega)
     have q4:(t.f.k==4)=false:=i4.2 (by rw [HKK.out];omega)
     have q2:(t.f.k==2)=false:=i4.2 (by rw [HKK.out];omega)
     have q5:(t.f.k==5)=false:=i4.2 (by rw [HKK.out];omega)
     have q6:(t.f.k==6)=true:=beq_iff_eq.2 (by rw [HKK.out];omega)
     clear h5 h1 h2
     go_wp2_with (go_at_call 68;(with_reducible refine(BR.out _).mono ?_);rintro e W8 ⟨rfl,h8⟩;have B8:=aD (aJ B2.out h8 lz9);clear h8)
     go_ret
     exact FormedP.mk br rfl (HI2.out) B8.out
   ·have el:¬ (1:Int) < (t.f.kl:Int):=by rw [HLN.out];omega
    have HI2:=aD (show false=true ↔ cB c f p t from ⟨fun z=>(by cases z),fun z=>absurd (HI.out.2 z).1 hl⟩)
    clear hl
    rcases h56 with h5 | h5
    ·have q1:(t.f.k==1)=false:=i4.2 (by rw [HKK.out];omega)
     have q3:(t.f.k==3)=false:=i4.2 (by rw [HKK.out];omega)
     have q4:(t.f.k==4)=false:=i4.2 (by rw [HKK.out];omega)
     have q2:(t.f.k==2)=false:=i4.2 (by rw [HKK.out];omega)
     have q5:(t.f.k==5)=true:=beq_iff_eq.2 (by rw [HKK.out];omega)
     clear h5 h1 h2
     go_wp2
     go_ret
     exact FormedP.mk false rfl (HI2.out) B2.out
    ·have q1:(t.f.k==1)=false:=i4.2 (by rw [HKK.out];omega)
     have q3:(t.f.k==3)=false:=i4.2 (by rw [HKK.out];omega)
     have q4:(t.f.k==4)=false:=i4.2 (by rw [HKK.out];omega)
     have q2:(t.f.k==2)=false:=i4.2 (by rw [HKK.out];omega)
     have q5:(t.f.k==5)=false:=i4.2 (by rw [HKK.out];omega)
     have q6:(t.f.k==6)=true:=beq_iff_eq.2 (by rw [HKK.out];omega)
     clear h5 h1 h2
     go_wp2
     go_ret
     exact FormedP.mk false rfl (HI2.out) B2.out
  by_cases h7:k=7
  ·have BR:=aD (fun W=>aN3 t.f W)
   obtain⟨br,hbr⟩:∃ br,decide (t.f.mn=0/\t.f.mx=0/\t.f.rs.length=0)=br:=⟨_,rfl⟩
   rw [hbr] at BR
   have HBR:=aD hbr
   clear hbr
   have HI:=aD (show (ln=1/\br=true) ↔ cB c f p t by
    rw [<- HBR.out,FT.out,TK.out,if_neg h1,if_neg h2,if_neg h56,if_pos h7,aBC,<- HLN.out,HKL.out])
   have q1:(t.f.k==1)=false:=i4.2 (by rw [HKK.out];omega)
   have q3:(t.f.k==3)=false:=i4.2 (by rw [HKK.out];omega)
   have q4:(t.f.k==4)=false:=i4.2 (by rw [HKK.out];omega)
   have q2:(t.f.k==2)=false:=i4.2 (by rw [HKK.out];omega)
   have q5:(t.f.k==5)=false:=i4.2 (by rw [HKK.out];omega)
   have q6:(t.f.k==6)=false:=i4.2 (by rw [HKK.out];omega)
   have q7:(t.f.k==7)=true:=beq_iff_eq.2 (by rw [HKK.out];omega)
   clear h1 h2 h56 h7
   by_cases hl:ln=1
   ·have el:((t.f.kl:Int)==1)=true:=beq_iff_eq.2 (by rw [HLN.out];omega)
    have HI2:=aD (show br=true ↔ cB c f p t from ⟨fun z=>HI.out.1 ⟨hl,z⟩,fun z=>(HI.out.2 z).2⟩)
    clear hl
    go_wp2_with (go_at_call 68;(with_reducible refine(BR.out _).mono ?_);rintro e W8 ⟨rfl,h8⟩;have B8:=aD (aJ B2.out h8 lz9);clear h8)
    go_ret
    exact FormedP.mk br rfl (HI2.out) B8.out
   ·have el:((t.f.kl:Int)==1)=false:=i4.2 (by rw [HLN.out];omega)
    have HI2:=aD (show false=true ↔ cB c f p t from ⟨fun z=>(by cases z),fun z=>absurd (HI.out.2 z).1 hl⟩)
    clear hl
    go_wp2
    go_ret
    exact FormedP.mk false rfl (HI2.out) B2.out
  by_cases h8:k=8
  ·have BR:=aD (fun W=>aN4 t.f W)
   obtain⟨br,hbr⟩:∃ br,decide (t.f.mn=0/\t.f.mx=0/\t.f.rs.length=0/\t.f.kl=0)=br:=⟨_,rfl⟩
   rw [hbr] at BR
   have HBR:=aD hbr
   clear hbr
   have HI:=aD (show ((1<=t.f.n/\t.f.n<=9)/\br=true) ↔ cB c f p t by
    rw [<- HBR.out,FT.out,TK.out,if_neg h1,if_neg h2,if_neg h56,if_neg h7,if_pos h8,aBC,HKL.out])
   have q1:(t.f.k==1)=false:=i4.2 (by rw [HKK.out];omega)
   have q3:(t.f.k==3)=false:=i4.2 (by rw [HKK.out];omega)
   have q4:(t.f.k==4)=false:=i4.2 (by rw [HKK.out];omega)
   have q2:(t.f.k==2)=false:=i4.2 (by rw [HKK.out];omega)
   have q5:(t.f.k==5)=false:=i4.2 (by rw [HKK.out];omega)
   have q6:(t.f.k==6)=false:=i4.2 (by rw [HKK.out];omega)
   have q7:(t.f.k==7)=false:=i4.2 (by rw [HKK.out];omega)
   have q8:(t.f.k==8)=true:=beq_iff_eq.2 (by rw [HKK.out];omega)
   clear h1 h2 h56 h7 h8
   by_cases g1:1<=t.f.n
   ·by_cases g2:t.f.n<=9
    ·have HI2:=aD (show br=true ↔ cB c f p t from ⟨fun z=>HI.out.1 ⟨⟨g1,g2⟩,z⟩,fun z=>(HI.out.2 z).2⟩)
     go_wp2_with (go_at_call 68;(with_reducible refine(BR.out _).mono ?_);rintro e W8 ⟨rfl,h8⟩;have B8:=aD (aJ B2.out h8 lz9);clear h8)
     go_ret
     exact FormedP.mk br rfl (HI2.out) B8.out
    ·have HI2:=aD (show false=true ↔ cB c f p t from ⟨fun z=>(by cases z),fun z=>absurd (HI.out.2 z).1.2 g2⟩)
     go_wp2
     go_ret
     exact FormedP.mk false rfl (HI2.out) B2.out
   ·have HI2:=aD (show false=true ↔ cB c f p t from ⟨fun z=>(by cases z),fun z=>absurd (HI.out.2 z).1.1 g1⟩)
    go_wp2
    go_ret
    exact FormedP.mk false rfl (HI2.out) B2.out
  by_cases h9:k=9
  ·have BR:=aD (fun W=>aN5 t.f W)
   obtain⟨br,hbr⟩:∃ br,decide (t.f.n=0/\t.f.rs.length=0)=br:=⟨_,rfl⟩
   rw [hbr] at BR
   have HBR:=aD hbr
   clear hbr
   have BD:=aD (fun W=>bD0 t.f.mn t.f.mx W)
   obtain⟨bd,hbd⟩:∃ bd,fU t.f.mn t.f.mx=bd:=⟨_,rfl⟩
   rw [hbd] at BD
   have HBD:=aD hbd
   clear hbd
   have HI:=aD (show (bd=true/\ln=1/\br=true) ↔ cB c f p t by
    rw [<- HBR.out,FT.out,TK.out,if_neg h1,if_neg h2,if_neg h56,if_neg h7,if_neg h8,if_pos h9,aBC,<- HLN.out,HKL.out,HBD.out])
   have q1:(t.f.k==1)=false:=i4.2 (by rw [HKK.out];omega)
   have q3:(t.f.k==3)=false:=i4.2 (by rw [HKK.out];omega)
   have q4:(t.f.k==4)=false:=i4.2 (by rw [HKK.out];omega)
   have q2:(t.f.k==2)=false:=i4.2 (by rw [HKK.out];omega)
   have q5:(t.f.k==5)=false:=i4.2 (by rw [HKK.out];omega)
   have q6:(t.f.k==6)=false:=i4.2 (by rw [HKK.out];omega)
   have q7:(t.f.k==7)=false:=i4.2 (by rw [HKK.out];omega)
   have q8:(t.f.k==8)=false:=i4.2 (by rw [HKK.out];omega)
   have q9:(t.f.k==9)=true:=beq_iff_eq.2 (by rw [HKK.out];omega)
   clear h1 h2 h56 h7 h8 h9
   cases bd with
   | false=>
    have HI2:=aD (show false=true ↔ cB c f p t from ⟨fun z=>(by cases z),fun z=>(HI.out.2 z).1⟩)
    go_wp2_with (go_at_call 72;(with_reducible refine(BD.out _).mono ?_);rintro e w5 ⟨rfl,h5⟩;subst w5)
    go_ret
    exact FormedP.mk false rfl (HI2.out) B2.out
   | true=>
    by_cases hl:ln=1
    ·have el:((t.f.kl:Int)==1)=true:=beq_iff_eq.2 (by rw [HLN.out];omega)
     have HI2:=aD (show br=true ↔ cB c f p t from ⟨fun z=>HI.out.1 ⟨rfl,hl,z⟩,fun z=>(HI.out.2 z).2.2⟩)
     clear hl
     go_wp2_with first |(go_at_call 72;(with_reducible refine(BD.out _).mono ?_);rintro e w5 ⟨rfl,h5⟩;subst w5) |(go_at_call 68;(with_reducible refine(BR.out _).mono ?_);rintro e W8 ⟨rfl,h8⟩;have B8:=aD (aJ B2.out h8 lz9);clear h8)
     go_ret
     exact FormedP.mk br rfl (HI2.out) B8.out
    ·have el:((t.f.kl:Int)==1)=false:=i4.2 (by rw [HLN.out];omega)
     have HI2:=aD (show false=true ↔ cB c f p t from ⟨fun z=>(by cases z),fun z=>absurd (HI.out.2 z).2.1 hl⟩)
     clear hl
     go_wp2_with (go_at_call 72;(with_reducible refine(BD.out _).mono ?_);rintro e w5 ⟨rfl,h5⟩;subst w5)
     go_ret
     exact FormedP.mk false rfl (HI2.out) B2.out
  have q1:(t.f.k==1)=false:=i4.2 (by rw [HKK.out];omega)
  have q3:(t.f.k==3)=false:=i4.2 (by rw [HKK.out];omega)
  have q4:(t.f.k==4)=false:=i4.2 (by rw [HKK.out];omega)
  have q2:(t.f.k==2)=false:=i4.2 (by rw [HKK.out];omega)
  have q5:(t.f.k==5)=false:=i4.2 (by rw [HKK.out];omega)
  have q6:(t.f.k==6)=false:=i4.2 (by rw [HKK.out];omega)
  have q7:(t.f.k==7)=false:=i4.2 (by rw [HKK.out];omega)
  have q8:(t.f.k==8)=false:=i4.2 (by rw [HKK.out];omega)
  have q9:(t.f.k==9)=false:=i4.2 (by rw [HKK.out];omega)
  have HI2:=aD (show false=true ↔ cB c f p t from ⟨fun z=>(by cases z),fun z=>by
   have:=TK.out.1 (FT.out.1 z)
   rw [if_neg h1,if_neg h2,if_neg h56,if_neg h7,if_neg h8,if_neg h9] at this
   exact this.elim⟩)
  clear h1 h2 h56 h7 h8 h9
  go_wp2
  go_ret
  exact FormedP.mk false rfl (HI2.out) B2.out
end Go.Proofs.YtlaimbkenbijeaaGreatDoor
