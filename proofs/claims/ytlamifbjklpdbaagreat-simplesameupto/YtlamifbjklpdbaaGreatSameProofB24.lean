/-
  Parts of the proof.
-/
import Derived.Test.YtlamifbjklpdbaaGreatSameProofA0
import Derived.Test.YtlamifbjklpdbaaGreatSameProofB11
import Derived.Test.YtlamifbjklpdbaaGreatSameProofB8
import Derived.Test.YtlamifbjklpdbaaGreatSameProofB20
import Derived.Test.YtlamifbjklpdbaaGreatSameProofB23
import Derived.Deep.RegionWith
import Derived.Deep.RegionHeld
import Derived.Deep.DeepCutAuto
import Derived.Test.YtlamifbjklpdbaaGreatSameProofB21
import Derived.Test.YtlamifbjklpdbaaGreatSameProofB22
import Derived.BigQuiet
import Derived.Test.YtlamifbjklpdbaaGreatSameProofB0
import Derived.Deep.Slices
import Derived.Deep.SlicePairs
import Derived.ChangeSame
import Derived.SizedLaws
import Derived.Test.YtlamifbjklpdbaaGreatRows
set_option linter.unusedSimpArgs false
set_option maxRecDepth 100000
set_option maxHeartbeats 8000000
namespace Go.Proofs.YtlamifbjklpdbaaGreat
open Go Go.RowKit
abbrev Sg:=Int×Int×Int×Int×List (Int×Int)×Nat
def sig(t:Tr):Sg:=(t.f.k,t.f.n,t.f.mn,t.f.mx,t.f.rs,t.ks.length)
def sgs(l:List El):List Sg:=l.map fun x=>sig x.2
theorem iM(a b:List El):sgs (a++b)=sgs a++sgs b:=by simp [sgs]
theorem bI3{a b:Tr}(h:er a=er b):sig a=sig b:=by
 obtain⟨h1,h2,h3,h4,h5,h6⟩:=(qG a b).1 h
 have:=congrArg List.length h6
 rw [aAC,aAC] at this
 unfold sig
 rw [h1,h2,h3,h4,h5,this]
theorem aW8(a:Tr):∀ (b:Tr) (p q:Way) (X Y:List Sg),sgs (pp p a)++X=sgs (pp q b)++Y->er a=er b/\X=Y:=by
 refine Tr.ind (P:=fun a=>∀ (b:Tr) (p q:Way) (X Y:List Sg),sgs (pp p a)++X=sgs (pp q b)++Y->er a=er b/\X=Y) (fun a ih b p q X Y h=>?_) a
 have key:∀ (ks js:List Tr) (i i':Nat) (X Y:List Sg),(∀ u∈ks,u∈a.ks)->ks.length=js.length->sgs (pps a p i ks)++X=sgs (pps b q i' js)++Y->ks.map er=js.map er/\X=Y:=by
  intro ks
  induction ks with
  | nil=>
   intro js i i' X Y _ hl h
   cases js with
   | nil=>rw [bA,bA] at h;exact⟨rfl,h⟩
   | cons v js=>cases hl
  | cons u ks ihk=>
   intro js i i' X Y hm hl h
   cases js with
   | nil=>cases hl
   | cons v js=>
    rw [aX,aX,iM,iM,r8,r8] at h
    obtain⟨h1,h2⟩:=ih u (hm u n9) v _ _ _ _ h
    obtain⟨h3,h4⟩:=ihk js _ _ X Y (fun z hz=>hm z (m9 _ hz)) (by simpa using hl) h2
    rw [s6,s6,h1,h3]
    exact⟨rfl,h4⟩
 rw [bX,bX] at h
 simp only [sgs,s6,t4] at h
 injection h with h1 h2
 obtain⟨h5,h6⟩:=key a.ks b.ks 0 0 X Y (fun _ z=>z) (congrArg (fun s:Sg=>s.2.2.2.2.2) h1) h2
 refine⟨(qG a b).2 ⟨congrArg (fun s:Sg=>s.1) h1,congrArg (fun s:Sg=>s.2.1) h1,congrArg (fun s:Sg=>s.2.2.1) h1,congrArg (fun s:Sg=>s.2.2.2.1) h1,congrArg (fun s:Sg=>s.2.2.2.2.1) h1,h5⟩,h6⟩
theorem bI4(a:Tr):∀ (b:Tr) (p q:Way),er a=er b->sgs (pp p a)=sgs (pp q b):=by
 refine Tr.ind (P:=fun a=>∀ (b:Tr) (p q:Way),er a=er b->sgs (pp p a)=sgs (pp q b)) (fun a ih b p q h=>?_) a
 have hs:=bI3 h
 obtain⟨-,-,-,-,-,h6⟩:=(qG a b).1 h
 have key:∀ (ks js:List Tr) (i i':Nat),(∀ u∈ks,u∈a.ks)->ks.map er=js.map er->sgs (pps a p i ks)=sgs (pps b q i' js):=by
  intro ks
  induction ks with
  | nil=>
   intro js i i' _ hl
   cases js with
   | nil=>rw [bA,bA]
   | cons v js=>cases hl
  | cons u ks ihk=>
   intro js i i' hm hl
   cases js with
   | nil=>cases hl
   | cons v js=>
    rw [s6,s6] at hl
    injection hl with h1 h2
    rw [aX,aX,iM,iM,ih u (hm u n9) v _ _ h1,ihk js _ _ (fun z hz=>hm z (m9 _ hz)) h2]
 rw [bX,bX]
 have:=key a.ks b.ks 0 0 (fun _ z=>z) h6
 simp only [sgs,s6] at this ⊢
 rw [hs,this]
theorem pP(a b:Tr):eQ (er a) (er b)=true↔sgs (pp [] a)=sgs (pp [] b):=by
 rw [eU]
 refine⟨bI4 a b [] [],fun h=>(aW8 a b [] [] [] [] (by rw [h])).1⟩
theorem aW7(a b:Tr)(h:sgs (pp [] a)=sgs (pp [] b)):(pp [] a).length=(pp [] b).length:=by
 have:=congrArg List.length h
 simpa [sgs] using this
noncomputable def rsB (a b:Tr):Bool:=!decide (2000<(pp [] a).length) && !decide (2000<(pp [] b).length)&&eQ (er a) (er b)
theorem aL7{a b:Tr}(h:gA a≠gA b\/2000<gA a):rsB a b=false:=by
 unfold rsB gA at *
 cases hs:eQ (er a) (er b) with
 | false=>rw [Bool.and_false]
 | true=>
  have hl:=aW7 a b ((pP a b).1 hs)
  rw [aAM (show 2000<(pp [] a).length by omega)]
  rfl
theorem bI7{a b:Tr}(h1:gA a=gA b)(h2:¬ 2000<gA a):rsB a b=eQ (er a) (er b)/\(pp [] a).length<=2000/\(pp [] b).length<=2000:=by
 unfold rsB gA at *
 have l1:(pp [] a).length<=2000:=by omega
 have l2:(pp [] b).length<=2000:=by omega
 rw [r9 (by omega),r9 (by omega)]
 exact⟨rfl,l1,l2⟩
theorem wV{w:World}{a b:Tr}(ha:TB w a)(hb:TB w b):Calls Tryz.prog 16 #[.agg #[.int .i64 a.f.k,.int .i64 a.f.n,.int .i64 a.f.mn,.int .i64 a.f.mx,.slice a.f.rq a.f.rs.length a.f.rc,.slice a.f.kq a.f.kl a.f.kc],.agg #[.int .i64 b.f.k,.int .i64 b.f.n,.int .i64 b.f.mn,.int .i64 b.f.mx,.slice b.f.rq b.f.rs.length b.f.rc,.slice b.f.kq b.f.kl b.f.kc]] w fun e w'=>e=.returned (.bool (rsB a b))/\Below w.heap.size w w':=by
 have B1:Hid (Below w.heap.size w ((w.alloc (.cells #[.int .i64 a.f.k,.int .i64 a.f.n,.int .i64 a.f.mn,.int .i64 a.f.mx,.slice a.f.rq a.f.rs.length a.f.rc,.slice a.f.kq a.f.kl a.f.kc] 25)).alloc (.cells #[.int .i64 b.f.k,.int .i64 b.f.n,.int .i64 b.f.mn,.int .i64 b.f.mx,.slice b.f.rq b.f.rs.length b.f.rc,.slice b.f.kq b.f.kl b.f.kc] 25))):=(bz9).alloc (by simp) _
 have NA1:Hid (BoxN ((w.alloc (.cells #[.int .i64 a.f.k,.int .i64 a.f.n,.int .i64 a.f.mn,.int .i64 a.f.mx,.slice a.f.rq a.f.rs.length a.f.rc,.slice a.f.kq a.f.kl a.f.kc] 25)).alloc (.cells #[.int .i64 b.f.k,.int .i64 b.f.n,.int .i64 b.f.mn,.int .i64 b.f.mx,.slice b.f.rq b.f.rs.length b.f.rc,.slice b.f.kq b.f.kl b.f.kc] 25)) w.heap.size a.f):=(Below.heap_alloc _ _ _ (by simp)).trans (aD w _)
 have NB1:Hid (BoxN ((w.alloc (.cells #[.int .i64 a.f.k,.int .i64 a.f.n,.int .i64 a.f.mn,.int .i64 a.f.mx,.slice a.f.rq a.f.rs.length a.f.rc,.slice a.f.kq a.f.kl a.f.kc] 25)).alloc (.cells #[.int .i64 b.f.k,.int .i64 b.f.n,.int .i64 b.f.mn,.int .i64 b.f.mx,.slice b.f.rq b.f.rs.length b.f.rc,.slice b.f.kq b.f.kl b.f.kc] 25)) (w.heap.size+1) b.f):=(by
  have:=aD (w.alloc (.cells #[.int .i64 a.f.k,.int .i64 a.f.n,.int .i64 a.f.mn,.int .i64 a.f.mx,.slice a.f.rq a.f.rs.length a.f.rc,.slice a.f.kq a.f.kl a.f.kc] 25)) (.cells #[.int .i64 b.f.k,.int .i64 b.f.n,.int .i64 b.f.mn,.int .i64 b.f.mx,.slice b.f.rq b.f.rs.length b.f.rc,.slice b.f.kq b.f.kl b.f.kc] 25)
  rwa [v9] at this)
 have HA:=aA ha
 have HB:=aA hb
 obtain⟨R,hR⟩:∃ R,rsB a b=R:=⟨_,rfl⟩
 rw [hR]
 have HR:=aA hR
 clear ha hb hR
 go_enter Tryz.func16,Tryz.ntmps16
 go_upto_region 1 with fail
 generalize ((w.alloc (.cells #[.int .i64 a.f.k,.int .i64 a.f.n,.int .i64 a.f.mn,.int .i64 a.f.mx,.slice a.f.rq a.f.rs.length a.f.rc,.slice a.f.kq a.f.kl a.f.kc] 25)).alloc (.cells #[.int .i64 b.f.k,.int .i64 b.f.n,.int .i64 b.f.mn,.int .i64 b.f.mx,.slice b.f.rq b.f.rs.length b.f.rc,.slice b.f.kq b.f.kl b.f.kc] 25))=W1 at B1 NA1 NB1 ⊢
 generalize w.heap.size+1=bb at NB1 ⊢
 obtain⟨c0,c1,c2,c3,c4,c5⟩:=NA1.out.six
 simp only [m7] at c1 c2 c3 c4 c5
 have LA:=aA (sW (w:=W1) 2001 (by omega) (HA.out.kept B1.out))
 have hza:=rF a
 have HMA:=aA (jN 2001 a)
 generalize gM 2001 a=ZA at LA hza HMA
 have HZA:=aA hza
 clear hza
 go_upto_region 2 with (go_at_call 19;refine(LA.out).mono ?_;rintro e w5 ⟨q5,k5,rfl,h51,h52⟩;have Z5:=aA h51;have B5:=aA h52;clear h51 h52)
 clear c0 c1 c2 c3 c4 c5 LA
 obtain⟨c0,c1,c2,c3,c4,c5⟩:=(show BoxN w5 bb b.f from (B5.out.block _ (aC NB1.out)).trans NB1.out).six
 simp only [m7] at c1 c2 c3 c4 c5
 have B6:=aA (aG B1.out B5.out lz9)
 have LB:=aA (sW (w:=w5) 2001 (by omega) (HB.out.kept B6.out))
 have hzb:=rF b
 have HMB:=aA (jN 2001 b)
 generalize gM 2001 b=ZB at LB hzb HMB
 have HZB:=aA hzb
 clear hzb
 go_upto_region 3 with (go_at_call 19;refine(LB.out).mono ?_;rintro e w7 ⟨q7,k7,rfl,h51,h52⟩;have Z7:=aA h51;have B7:=aA h52;clear h51 h52)
 have Y7:Hid (ZR W1.heap.size w7 (.slice q5 ZA.length k5) ZA):=aH Z5.out (Fr.of_below (S:=fun _=>False) B7.out) (fun _ _ z=>z)
 have B8:=aA (aG B6.out B7.out lz9)
 have hua:gA a<=2001:=Nat.min_le_right _ _
 have hub:gA b<=2001:=Nat.min_le_right _ _
 have hal:ZA.length<=2001:=by rw [HZA.out];exact hua
 have hbl:ZB.length<=2001:=by rw [HZB.out];exact hub
 clear c0 c1 c2 c3 c4 c5 LB B1 B5 B6 B7 Z5 NA1 NB1 hua hub
 by_cases hne:ZA.length=ZB.length
 ·have e0:((ZA.length:Int) != (ZB.length:Int))=false:=by simp;omega
  by_cases hbig:2000<ZA.length
  ·have e1:(2000:Int)<(ZA.length:Int):=by omega
   have HF:=aA (HR.out.symm.trans (aL7 (.inr (by rw [<- HZA.out];exact hbig))))
   clear hne hbig
   go_wp2
   go_ret
   exact⟨by rw [HF.out];rfl,B8.out⟩
  ·have e1:¬ (2000:Int)<(ZA.length:Int):=by omega
   obtain⟨h1,h2,h3⟩:=bI7 (a:=a) (b:=b) (by rw [<- HZA.out,<- HZB.out];exact hne) (by rw [<- HZA.out];exact hbig)
   have HQ:=aA (HR.out.symm.trans h1)
   have HEA:=aA (show ZA.map (·.1)=pp [] a by rw [HMA.out,o4 (by omega)])
   have HEB:=aA (show ZB.map (·.1)=pp [] b by rw [HMB.out,o4 (by omega)])
   have HNE:=aA hne
   clear h1 h2 h3 hbig HMA HMB HZA HZB
   go_upto_region 6 with fail
   go_loopw [7] (fun i wr=>∃ j:Nat,j<=ZA.length/\i=.int .i64 (j:Int)/\Below w7.heap.size w7 wr/\(sgs (pp [] a)).take j=(sgs (pp [] b)).take j) (fun i _=>ZA.length-(intOf i).toNat)
   case atStart=>exact⟨0,o9 _,rfl,Below.refl _ _,rfl⟩
   case round=>
    obtain⟨j,hj,rfl,hbw,hsg⟩:=hrel
    have HBW:=aA hbw
    have HSG:=aA hsg
    clear hbw hsg
    by_cases hjl:j<ZA.length
    ·have i0:(j:Int)<(ZA.length:Int):=by omega
     have i1:(j:Int)<(ZB.length:Int):=by omega
     obtain⟨x,hx⟩:∃ x,ZA[j]?=some x:=⟨_,g9 hjl⟩
     obtain⟨y,hy⟩:∃ y,ZB[j]?=some y:=⟨_,g9 (by omega)⟩
     obtain⟨ga,ca,hqa⟩:=aO Y7.out (by omega)
     obtain⟨gb,cb,hqb⟩:=aO Z7.out (by omega)
     injection hqa with hqa1 _ hqa2
     injection hqb with hqb1 _ hqb2
     subst hqa1 hqa2 hqb1 hqb2
     have YA:ZR W1.heap.size wr (.slice (some ⟨ga,0,none⟩) ZA.length k5) ZA:=aH Y7.out (Fr.of_below (S:=fun _=>False) HBW.out) (fun _ _ z=>z)
     have YB:ZR w5.heap.size wr (.slice (some ⟨gb,0,none⟩) ZB.length k7) ZB:=aH Z7.out (Fr.of_below (S:=fun _=>False) HBW.out) (fun _ _ z=>z)
     have x0:wr.cell? ⟨ga,j*12,none⟩=some (.int .i64 x.1.2.f.k):=YA.cells hx (j:=0) rfl
     have x1:wr.cell? ⟨ga,j*12+1,none⟩=some (.int .i64 x.1.2.f.n):=YA.cells hx (j:=1) rfl
     have x2:wr.cell? ⟨ga,j*12+2,none⟩=some (.int .i64 x.1.2.f.mn):=YA.cells hx (j:=2) rfl
     have x3:wr.cell? ⟨ga,j*12+3,none⟩=some (.int .i64 x.1.2.f.mx):=YA.cells hx (j:=3) rfl
     have x4:wr.cell? ⟨ga,j*12+4,none⟩=some (.slice x.1.2.f.rq x.1.2.f.rs.length x.1.2.f.rc):=YA.cells hx (j:=4) rfl
     have x5:wr.cell? ⟨ga,j*12+5,none⟩=some (.slice x.1.2.f.kq x.1.2.f.kl x.1.2.f.kc):=YA.cells hx (j:=5) rfl
     have y0:wr.cell? ⟨gb,j*12,none⟩=some (.int .i64 y.1.2.f.k):=YB.cells hy (j:=0) rfl
     have y1:wr.cell? ⟨gb,j*12+1,none⟩=some (.int .i64 y.1.2.f.n):=YB.cells hy (j:=1) rfl
     have y2:wr.cell? ⟨gb,j*12+2,none⟩=some (.int .i64 y.1.2.f.mn):=YB.cells hy (j:=2) rfl
     have y3:wr.cell? ⟨gb,j*12+3,none⟩=some (.int .i64 y.1.2.f.mx):=YB.cells hy (j:=3) rfl
     have y4:wr.cell? ⟨gb,j*12+4,none⟩=some (.slice y.1.2.f.rq y.1.2.f.rs.length y.1.2.f.rc):=YB.cells hy (j:=4) rfl
     have y5:wr.cell? ⟨gb,j*12+5,none⟩=some (.slice y.1.2.f.kq y.1.2.f.kl y.1.2.f.kc):=YB.cells hy (j:=5) rfl
     have hxa:(pp [] a)[j]?=some x.1:=by rw [<- HEA.out,aAO,hx];rfl
     have hyb:(pp [] b)[j]?=some y.1:=by rw [<- HEB.out,aAO,hy];rfl
     have lga:ga<wr.heap.size:=(aF YA (g:=ga) rfl).2.1
     have lgb:gb<wr.heap.size:=(aF YB (g:=gb) rfl).2.1
     have BW:=aG B8.out HBW.out lz9
     have TX:=(HA.out.at (n8 hxa)).node.ck (CK.of_below BW)
     have TY:=(HB.out.at (n8 hyb)).node.ck (CK.of_below BW)
     have klx:=TX.kl
     have kly:=TY.kl
     have SN:Hid (sig x.1.2=sig y.1.2->(sgs (pp [] a)).take (j+1)=(sgs (pp [] b)).take (j+1)):=fun h=>(by
      rw [s7,s7,HSG.out]
      simp only [sgs,aAO,hxa,hyb,Option.map_some]
      rw [h])
     have SD:Hid (sig x.1.2≠sig y.1.2->R=false):=fun h=>(by
      rw [HQ.out]
      cases hs:eQ (er a) (er b) with
      | false=>rfl
      | true=>
       exfalso
       have:=(pP a b).1 hs
       have h2:=congrArg (fun l=>l[j]?) this
       simp only [sgs,aAO,hxa,hyb,Option.map_some] at h2
       injection h2 with h2
       exact h h2)
     have SG:=aA (show sig x.1.2=sig y.1.2↔x.1.2.f.k=y.1.2.f.k/\x.1.2.f.n=y.1.2.f.n/\x.1.2.f.mn=y.1.2.f.mn/\x.1.2.f.mx=y.1.2.f.mx/\x.1.2.f.rs=y.1.2.f.rs/\x.1.2.f.kl=y.1.2.f.kl by
      unfold sig
      rw [klx,kly]
      simp [Prod.ext_iff])
     obtain⟨⟨wa,ta⟩,oa⟩:=x
     obtain⟨⟨wb,tb⟩,ob⟩:=y
     dsimp only at *
     have TX':=aA TX
     have TY':=aA TY
     clear hx hy hxa hyb YA YB TX TY klx kly BW
     go_upto_region 10 with fail
     have K2:Below wr.heap.size wr ((wr.alloc (.cells #[.int .i64 ta.f.k,.int .i64 ta.f.n,.int .i64 ta.f.mn,.int .i64 ta.f.mx,.slice ta.f.rq ta.f.rs.length ta.f.rc,.slice ta.f.kq ta.f.kl ta.f.kc] 25)).alloc (.cells #[.int .i64 tb.f.k,.int .i64 tb.f.n,.int .i64 tb.f.mn,.int .i64 tb.f.mx,.slice tb.f.rq tb.f.rs.length tb.f.rc,.slice tb.f.kq tb.f.kl tb.f.kc] 25)):=(bz9).alloc (by simp) _
     have N8:Hid (BoxN ((wr.alloc (.cells #[.int .i64 ta.f.k,.int .i64 ta.f.n,.int .i64 ta.f.mn,.int .i64 ta.f.mx,.slice ta.f.rq ta.f.rs.length ta.f.rc,.slice ta.f.kq ta.f.kl ta.f.kc] 25)).alloc (.cells #[.int .i64 tb.f.k,.int .i64 tb.f.n,.int .i64 tb.f.mn,.int .i64 tb.f.mx,.slice tb.f.rq tb.f.rs.length tb.f.rc,.slice tb.f.kq tb.f.kl tb.f.kc] 25)) wr.heap.size ta.f):=(Below.heap_alloc _ _ _ (by simp)).trans (aD wr _)
     have N9:Hid (BoxN ((wr.alloc (.cells #[.int .i64 ta.f.k,.int .i64 ta.f.n,.int .i64 ta.f.mn,.int .i64 ta.f.mx,.slice ta.f.rq ta.f.rs.length ta.f.rc,.slice ta.f.kq ta.f.kl ta.f.kc] 25)).alloc (.cells #[.int .i64 tb.f.k,.int .i64 tb.f.n,.int .i64 tb.f.mn,.int .i64 tb.f.mx,.slice tb.f.rq tb.f.rs.length tb.f.rc,.slice tb.f.kq tb.f.kl tb.f.kc] 25)) (wr.heap.size+1) tb.f):=(by
      have:=aD (wr.alloc (.cells #[.int .i64 ta.f.k,.int .i64 ta.f.n,.int .i64 ta.f.mn,.int .i64 ta.f.mx,.slice ta.f.rq ta.f.rs.length ta.f.rc,.slice ta.f.kq ta.f.kl ta.f.kc] 25)) (.cells #[.int .i64 tb.f.k,.int .i64 tb.f.n,.int .i64 tb.f.mn,.int .i64 tb.f.mx,.slice tb.f.rq tb.f.rs.length tb.f.rc,.slice tb.f.kq tb.f.kl tb.f.kc] 25)
      rwa [v9] at this)
     have AK:=aA (tL (TX'.out.ck (CK.of_below K2)).r (TY'.out.ck (CK.of_below K2)).r)
     have HK2:=aA K2
     clear K2
     generalize ((wr.alloc (.cells #[.int .i64 ta.f.k,.int .i64 ta.f.n,.int .i64 ta.f.mn,.int .i64 ta.f.mx,.slice ta.f.rq ta.f.rs.length ta.f.rc,.slice ta.f.kq ta.f.kl ta.f.kc] 25)).alloc (.cells #[.int .i64 tb.f.k,.int .i64 tb.f.n,.int .i64 tb.f.mn,.int .i64 tb.f.mx,.slice tb.f.rq tb.f.rs.length tb.f.rc,.slice tb.f.kq tb.f.kl tb.f.kc] 25))=W2 at N8 N9 AK HK2 ⊢
     generalize wr.heap.size+1=b9 at N9 ⊢
     obtain⟨b8,hb8⟩:∃ b8,wr.heap.size=b8:=⟨_,rfl⟩
     rw [hb8] at N8 ⊢
     clear hb8
     have a4:W2.cell? ⟨b8,4,none⟩=some (.slice ta.f.rq ta.f.rs.length ta.f.rc):=N8.out.six.2.2.2.2.1
     have d4:W2.cell? ⟨b9,4,none⟩=some (.slice tb.f.rq tb.f.rs.length tb.f.rc):=N9.out.six.2.2.2.2.1
     obtain⟨rr,hrr⟩:∃ rr,decide (ta.f.rs=tb.f.rs)=rr:=⟨_,rfl⟩
     rw [hrr] at AK
     have HRR:=aA hrr
     clear hrr x0 x1 x2 x3 x4 x5 y0 y1 y2 y3 y4 y5
     go_upto_region 11 with (go_at_call 31;(with_reducible refine(AK.out).mono ?_);rintro e W3 ⟨rfl,h3⟩;have B3:=aA h3;have N8':=aA ((h3.block _ (aC N8.out)).trans N8.out);have N9':=aA ((h3.block _ (aC N9.out)).trans N9.out);clear h3)
     have HB4:=aA (aG HBW.out (aG HK2.out B3.out lz9) (by have:=HBW.out.size;omega))
     obtain⟨x0,x1,x2,x3,x4,x5⟩:=(show BoxN W3 b8 ta.f from N8'.out).six
     obtain⟨y0,y1,y2,y3,y4,y5⟩:=(show BoxN W3 b9 tb.f from N9'.out).six
     simp only [m7] at x1 x2 x3 x4 x5 y1 y2 y3 y4 y5
     clear a4 d4 N8 N9 AK HK2 B3 N8' N9'
     obtain⟨S,hS⟩:∃ S:Bool,(S=true↔sig ta=sig tb):=by
      by_cases h:sig ta=sig tb
      ·exact⟨true,⟨fun _=>h,fun _=>rfl⟩⟩
      ·exact⟨false,⟨fun z=>(by cases z),fun z=>absurd z h⟩⟩
     have HSS:=aA hS
     clear hS
     go_cut [84] (fun u wx=>u=.bool (!S)/\wx=W3)
     case first=>
      by_cases hk:ta.f.k=tb.f.k
      case neg=>
       have ek:(ta.f.k != tb.f.k)=true:=by simpa using hk
       have HF:=aA (show S=false from Bool.eq_false_iff.2 fun z0=>(fun z=>hk ((SG.out.1 z).1)) (HSS.out.1 z0))
       clear hk
       go_wp2
       go_meet
       exact⟨by rw [HF.out];rfl,rfl⟩
      have ek:(ta.f.k != tb.f.k)=false:=by simpa using hk
      have Hk9:=aA hk
      clear hk
      by_cases hn:ta.f.n=tb.f.n
      case neg=>
       have en:(ta.f.n != tb.f.n)=true:=by simpa using hn
       have HF:=aA (show S=false from Bool.eq_false_iff.2 fun z0=>(fun z=>hn ((SG.out.1 z).2.1)) (HSS.out.1 z0))
       clear hn
       go_wp2
       go_meet
       exact⟨by rw [HF.out];rfl,rfl⟩
      have en:(ta.f.n != tb.f.n)=false:=by simpa using hn
      have Hn9:=aA hn
      clear hn
      by_cases hm:ta.f.mn=tb.f.mn
      case neg=>
       have em:(ta.f.mn != tb.f.mn)=true:=by simpa using hm
       have HF:=aA (show S=false from Bool.eq_false_iff.2 fun z0=>(fun z=>hm ((SG.out.1 z).2.2.1)) (HSS.out.1 z0))
       clear hm
       go_wp2
       go_meet
       exact⟨by rw [HF.out];rfl,rfl⟩
      have em:(ta.f.mn != tb.f.mn)=false:=by simpa using hm
      have Hm9:=aA hm
      clear hm
      by_cases hx:ta.f.mx=tb.f.mx
      case neg=>
       have ex:(ta.f.mx != tb.f.mx)=true:=by simpa using hx
       have HF:=aA (show S=false from Bool.eq_false_iff.2 fun z0=>(fun z=>hx ((SG.out.1 z).2.2.2.1)) (HSS.out.1 z0))
       clear hx
       go_wp2
       go_meet
       exact⟨by rw [HF.out];rfl,rfl⟩
      have ex:(ta.f.mx != tb.f.mx)=false:=by simpa using hx
      have Hx9:=aA hx
      clear hx
      cases rr with
      | false=>
       have HF:=aA (show S=false from Bool.eq_false_iff.2 fun z0=>(fun z=>(of_decide_eq_false HRR.out) ((SG.out.1 z).2.2.2.2.1)) (HSS.out.1 z0))
       go_wp2
       go_meet
       exact⟨by rw [HF.out];rfl,rfl⟩
      | true=>
       by_cases hl:ta.f.kl=tb.f.kl
       ·have el:((ta.f.kl:Int) != (tb.f.kl:Int))=false:=by simp;omega
        have HF:=aA (show S=true from HSS.out.2 (SG.out.2 ⟨Hk9.out,Hn9.out,Hm9.out,Hx9.out,of_decide_eq_true HRR.out,hl⟩))
        clear hl
        go_wp2
        go_meet
        exact⟨by rw [HF.out];rfl,rfl⟩
       ·have el:((ta.f.kl:Int) != (tb.f.kl:Int))=true:=by simp;omega
        have HF:=aA (show S=false from Bool.eq_false_iff.2 fun z0=>(fun z=>hl ((SG.out.1 z).2.2.2.2.2)) (HSS.out.1 z0))
        clear hl
        go_wp2
        go_meet
        exact⟨by rw [HF.out];rfl,rfl⟩
     case rest=>
      obtain⟨rfl,hW⟩:=hcut
      subst hW
      cases S with
      | true=>
       have HN:=aA (SN.out (HSS.out.1 rfl))
       go_wp2
       go_roundw
       case rel=>exact⟨j+1,by omega,by go_num,HB4.out,HN.out⟩
       case measure=>simp only [intOf];omega
      | false=>
       have HF:=aA (SD.out fun z=>by have:=HSS.out.2 z;cases this)
       go_wp2
       go_ret
       exact⟨by rw [HF.out];rfl,aG B8.out HB4.out lz9⟩
    ·have i0:¬ (j:Int)<(ZA.length:Int):=by omega
     have HF:=aA (show R=true by
      rw [HQ.out]
      refine(pP a b).2 ?_
      have h:=HSG.out
      have la:(sgs (pp [] a)).length=ZA.length:=by rw [<- HEA.out];simp [sgs]
      have lb:(sgs (pp [] b)).length=ZB.length:=by rw [<- HEB.out];simp [sgs]
      have:=HNE.out
      rwa [o4 (by omega),o4 (by omega)] at h)
     go_wp2
     go_ret
     exact⟨by rw [HF.out];rfl,aG B8.out HBW.out lz9⟩
 ·have e0:((ZA.length:Int) != (ZB.length:Int))=true:=by simp;omega
  have HF:=aA (HR.out.symm.trans (aL7 (.inl (by rw [<- HZA.out,<- HZB.out];exact hne))))
  clear hne
  go_wp2
  go_ret
  exact⟨by rw [HF.out];rfl,B8.out⟩
section
attribute [local go_sem] Oper.semAt_some
theorem aC7{R:Ending->World->Prop}{a:Act}{W:World}{b:Nat}{f:Fl}(h:Six W b 0 f)(ha:a.tmps[2]?.getD undef=.pointer (some ⟨b,0,none⟩))(hd:a.defers=[])(hR:R (.returned (.agg #[.int .i64 f.k,.int .i64 f.n,.int .i64 f.mn,.int .i64 f.mx,.slice f.rq f.rs.length f.rc,.slice f.kq f.kl f.kc])) W):bodyPost Tryz.prog Tryz.f18 R .ret a W:=by
 obtain⟨z0,z1,z2,z3,z4,z5⟩:=h
 simp only [m7] at z1 z2 z3 z4 z5
 refine bodyPost_ret (v:=.agg #[.int .i64 f.k,.int .i64 f.n,.int .i64 f.mn,.int .i64 f.mx,.slice f.rq f.rs.length f.rc,.slice f.kq f.kl f.kc]) ?_ hd hR
 simp [results,Tryz.results18,go_sem,ha,z0,z1,z2,z3,z4,z5]
theorem yX{w:World}(c:Int)(hc:0<=c/\c<=1000000):Calls Tryz.prog 18 #[.int .i64 c] w (jZ w (.mk 2 0 0 0 [(c,c)] [])):=by
 go_enter Tryz.func18,Tryz.ntmps18
 go_wp2
 have B1:Below w.heap.size w ((w.alloc (.cells #[.int .i64 2,.int .i64 0,.int .i64 0,.int .i64 0,.slice (some ⟨w.heap.size+1,0,none⟩) 1 1,.slice none 0 0] 25)).alloc (.cells #[.int .i64 c,.int .i64 c] 53)):=(bz9).alloc (by simp) _
 have N1:BoxN ((w.alloc (.cells #[.int .i64 2,.int .i64 0,.int .i64 0,.int .i64 0,.slice (some ⟨w.heap.size+1,0,none⟩) 1 1,.slice none 0 0] 25)).alloc (.cells #[.int .i64 c,.int .i64 c] 53)) w.heap.size ⟨2,0,0,0,[(c,c)],some ⟨w.heap.size+1,0,none⟩,1,none,0,0⟩:=(Below.heap_alloc _ _ _ (by simp)).trans (aD w _)
 have M1:((w.alloc (.cells #[.int .i64 2,.int .i64 0,.int .i64 0,.int .i64 0,.slice (some ⟨w.heap.size+1,0,none⟩) 1 1,.slice none 0 0] 25)).alloc (.cells #[.int .i64 c,.int .i64 c] 53)).heap[w.heap.size+1]?=some (.cells #[.int .i64 c,.int .i64 c] 53 (0,0)):=(by
  have:=aD (w.alloc (.cells #[.int .i64 2,.int .i64 0,.int .i64 0,.int .i64 0,.slice (some ⟨w.heap.size+1,0,none⟩) 1 1,.slice none 0 0] 25)) (.cells #[.int .i64 c,.int .i64 c] 53)
  rwa [v9] at this)
 refine aC7 N1.six rfl rfl ?_
 refine⟨.mk ⟨2,0,0,0,[(c,c)],some ⟨w.heap.size+1,0,none⟩,1,none,0,0⟩ [],rfl,(aI _).2 ⟨⟨.inr ⟨w.heap.size+1,0,1,rfl,aC M1,t8 _,by unfold maxLen;decide,fun i r hi=>?_⟩,.inl ⟨none,0,rfl,rfl,fun _=>rfl⟩,gJ (by omega),by simp [Tr.f],⟨fun a e _=>(by cases e;exact⟨_,M1⟩),fun a e=>(by cases e)⟩⟩,(aT _).2 fun u hu=>by cases hu⟩,(aI _).2 ⟨⟨fun a e _=>?_,fun a e=>(by cases e)⟩,(aT _).2 fun u hu=>by cases hu⟩,by rw [bY];rfl,B1⟩
 ·match i,hi with
  | 0,hi=>
   simp [Tr.f] at hi
   subst hi
   exact⟨aB M1 (i:=0) rfl,aB M1 (i:=1) rfl⟩
 ·have e':some (⟨w.heap.size+1,0,none⟩:Addr)=some a:=e
  injection e' with e'
  subst e'
  exact aCA _
def RB(W:World)(B:Nat)(X:Er):Prop:=∃ t,BoxN W B t.f/\TA W t/\er t=X
def SJ(W V:World):Prop:=Below W.heap.size W V
theorem SJ.out{W V:World}(h:SJ W V):Below W.heap.size W V:=h
theorem SJ.drew(W:World):SJ W W.drew:=(Below.refl _ _).drew
theorem SJ.alloc{W V:World}(h:SJ W V)(o:Obj):SJ W (V.alloc o):=Below.alloc h h.out.size o
theorem SJ.set{W V:World}(h:SJ W V){b:Nat}(hb:W.heap.size<=b)(i:Nat)(v:Value):SJ W (V.setCell ⟨b,i,none⟩ v):=Below.setCell h hb v
theorem SJ.call{W V V':World}(h:SJ W V)(hb:Below V.heap.size V V'):SJ W V':=aG h.out hb lz9
theorem SJ.size{W V:World}(h:SJ W V):W.heap.size<=V.heap.size:=h.out.size
theorem SJ.six{W V:World}{b:Nat}{f:Fl}(h:SJ W V)(x:BoxN W b f):Six V b 0 f:=BoxN.six ((h.out.block _ (aC x)).trans x)
theorem sP(V:World)(o o':Obj):((V.alloc o).alloc o').heap[V.heap.size]?=some o:=(Below.heap_alloc _ _ _ (by simp)).trans (World.alloc_heap_new V o)
theorem sO(V:World)(o o':Obj):((V.alloc o).alloc o').heap[V.heap.size+1]?=some o':=by
 have:=World.alloc_heap_new (V.alloc o) o'
 rwa [v9] at this
theorem bE5(V:World)(o:Obj):(V.alloc o).drew.heap[V.heap.size]?=some o:=World.alloc_heap_new V o
theorem aE1(V:World)(o o':Obj):((V.alloc o).alloc o').drew.heap[V.heap.size]?=some o:=sP V o o'
theorem aE0(V:World)(o o':Obj):((V.alloc o).alloc o').drew.heap[V.heap.size+1]?=some o':=sO V o o'
theorem SJ.ad{W V:World}(h:SJ W V.drew)(o:Obj):SJ W (V.alloc o).drew:=SJ.alloc h o
theorem vY(V:World)(o:Obj):Below V.heap.size V (V.alloc o):=bz9
theorem bQ3(V:World)(o o':Obj):Below V.heap.size V ((V.alloc o).alloc o'):=(vY V o).alloc (by simp) _
theorem bQ2{V:World}{k:Nat}{o:Obj}(h:V.heap[k]?=some o)(o':Obj):(V.alloc o').heap[k]?=some o:=(Below.heap_alloc _ _ _ (aC h)).trans h
theorem bD7{V w6:World}{k:Nat}{o:Obj}(zV:V.heap[k]?=some o)(g:Below V.heap.size V w6):w6.heap[k]?=some o:=(g.block _ (aC zV)).trans zV
theorem aH6{V w6:World}{t:Tr}{k:Nat}{o:Obj}(zV:V.heap[k]?=some o)(g:Below V.heap.size V w6)(hf:Foot (fun i=>V.heap.size<=i) t):w6.heap[k]?=some o/\Foot (fun i=>k<i) t:=⟨bD7 zV g,hf.mono (fun _ hk=>o8 (aC zV) hk)⟩
theorem aM6{W:World}{b:Nat}(h:W.heap[b]?=some (.cells #[.int .i64 0,.int .i64 0,.int .i64 0,.int .i64 0,.slice none 0 0,.slice none 0 0] 25 (0,0)))(f:Fl):BoxN (cD W b 0 f) b f:=by
 have h0:=aJ h 0 (.int .i64 f.k)
 have h1:=aJ h0 1 (.int .i64 f.n)
 have h2:=aJ h1 2 (.int .i64 f.mn)
 have h3:=aJ h2 3 (.int .i64 f.mx)
 have h4:=aJ h3 4 (.slice f.rq f.rs.length f.rc)
 have h5:=aJ h4 5 (.slice f.kq f.kl f.kc)
 exact h5
theorem bB9{W w6:World}{b:Nat}{t:Tr}{X:Er}(hS:SJ W w6)(hb:W.heap.size<=b)(z:w6.heap[b]?=some (.cells #[.int .i64 0,.int .i64 0,.int .i64 0,.int .i64 0,.slice none 0 0,.slice none 0 0] 25 (0,0))/\Foot (fun i=>b<i) t)(ht:TA w6 t)(hX:er t=X):RB ((((((w6.setCell ⟨b,0,none⟩ (.int .i64 t.f.k)).setCell ⟨b,1,none⟩ (.int .i64 t.f.n)).setCell ⟨b,2,none⟩ (.int .i64 t.f.mn)).setCell ⟨b,3,none⟩ (.int .i64 t.f.mx)).setCell ⟨b,4,none⟩ (.slice t.f.rq t.f.rs.length t.f.rc)).setCell ⟨b,5,none⟩ (.slice t.f.kq t.f.kl t.f.kc)) b X/\Below W.heap.size W ((((((w6.setCell ⟨b,0,none⟩ (.int .i64 t.f.k)).setCell ⟨b,1,none⟩ (.int .i64 t.f.n)).setCell ⟨b,2,none⟩ (.int .i64 t.f.mn)).setCell ⟨b,3,none⟩ (.int .i64 t.f.mx)).setCell ⟨b,4,none⟩ (.slice t.f.rq t.f.rs.length t.f.rc)).setCell ⟨b,5,none⟩ (.slice t.f.kq t.f.kl t.f.kc)):=by
 have h:RB (cD w6 b 0 t.f) b X/\Below W.heap.size W (cD w6 b 0 t.f):=⟨⟨t,aM6 z.1 t.f,(hU ht z.2 z.1).2.1,hX⟩,bB hS.out (dP w6 b 0 t.f) lz9 (fun k e=>by omega)⟩
 unfold cD at h
 simpa only [m7] using h
theorem bC0{W w6:World}{t:Tr}{X:Er}(hS:SJ W w6)(ht:TA w6 t)(hX:er t=X):RB (w6.alloc (.cells #[.int .i64 t.f.k,.int .i64 t.f.n,.int .i64 t.f.mn,.int .i64 t.f.mx,.slice t.f.rq t.f.rs.length t.f.rc,.slice t.f.kq t.f.kl t.f.kc] 25)) w6.heap.size X/\Below W.heap.size W (w6.alloc (.cells #[.int .i64 t.f.k,.int .i64 t.f.n,.int .i64 t.f.mn,.int .i64 t.f.mx,.slice t.f.rq t.f.rs.length t.f.rc,.slice t.f.kq t.f.kl t.f.kc] 25)):=
 ⟨⟨t,aD _ _,ht.kept (vY _ _),hX⟩,(hS.alloc _).out⟩
structure E13(w:World)(bm:Nat)(l:List (Nat×Tr))(V:World):Prop where
 bel:Below w.heap.size w V
 mode:V.heap[bm]?=some (.cells #[.bool false,.bool false] 27 (0,0))
 at':∀ p∈l,BoxN V p.1 p.2.f/\TB V p.2
theorem E13.kept{w V V':World}{bm:Nat}{l:List (Nat×Tr)}(h:E13 w bm l V)(hb:Below V.heap.size V V'):E13 w bm l V':=
 ⟨aG h.bel hb lz9,(hb.block _ (aC h.mode)).trans h.mode,fun p hp=>⟨(hb.block _ (aC (h.at' p hp).1)).trans (h.at' p hp).1,(h.at' p hp).2.kept hb⟩⟩
theorem E13.add{w V:World}{bm b:Nat}{l:List (Nat×Tr)}{t:Tr}(h:E13 w bm l V)(hb:BoxN V b t.f)(ht:TB V t):E13 w bm ((b,t) :: l) V:=
 ⟨h.bel,h.mode,fun p hp=>by
  rcases u0.1 hp with rfl | hp
  ·exact⟨hb,ht⟩
  ·exact h.at' p hp⟩
theorem E13.put{w V:World}{bm:Nat}{l:List (Nat×Tr)}{t:Tr}(h:E13 w bm l V)(ht:TB V t):E13 w bm ((V.heap.size,t) :: l) (V.alloc (.cells #[.int .i64 t.f.k,.int .i64 t.f.n,.int .i64 t.f.mn,.int .i64 t.f.mx,.slice t.f.rq t.f.rs.length t.f.rc,.slice t.f.kq t.f.kl t.f.kc] 25)):=
 (h.kept (bz9)).add (aD V _) (ht.kept (bz9))
def qA(k mn mx:Int)(g:Nat)(us:List Tr):Tr:=.mk ⟨k,0,mn,mx,[],none,0,some ⟨g,0,none⟩,us.length,us.length⟩ us
theorem jK(k mn mx:Int)(g:Nat)(us:List Tr):er (qA k mn mx g us)=.mk k 0 mn mx [] (us.map er):=by rw [bY];rfl
theorem E13.row{w V:World}{bm:Nat}{l:List (Nat×Tr)}(h:E13 w bm l V)(us:List Tr)(hu:∀ u∈us,TB V u)(hl:us.length<=1000)(k mn mx:Int):E13 w bm l (V.alloc (.cells (aV us).toArray 25))/\TB (V.alloc (.cells (aV us).toArray 25)) (qA k mn mx V.heap.size us):=by
 have K:Below V.heap.size V (V.alloc (.cells (aV us).toArray 25)):=bz9
 exact⟨h.kept K,aJ7 k 0 mn mx (aD V _) (fun u hu'=>(hu u hu').kept K) hl⟩
theorem wW{a b:Tr}(h:er a=er b)(hs:a.sz<=2000):rsB a b=true:=by
 have hb:b.sz=a.sz:=by rw [<- mT,<- mT,h]
 unfold rsB
 rw [bL,bL,hb,r9 (by omega),h,(eU _ _).2 rfl]
 rfl
theorem aW1{W:World}{g:Nat}{a b:Int}(h:W.heap[g]?=some (.cells #[.int .i64 a,.int .i64 b] 53 (0,0)))(hf:Fit [(a,b)]):TB W (.mk ⟨2,0,0,0,[(a,b)],some ⟨g,0,none⟩,1,none,0,0⟩ []):=by
 refine(aI _).2 ⟨⟨.inr ⟨g,0,1,rfl,aC h,by simp [Tr.f],by unfold maxLen;omega,fun i r hr=>?_⟩,.inl ⟨none,0,rfl,rfl,fun _=>rfl⟩,hf,by simp [Tr.f]⟩,(aT _).2 fun u hu=>by simp [Tr.ks] at hu⟩
 match i,hr with
 | 0,hr=>
  simp [Tr.f] at hr
  subst hr
  exact⟨aB h rfl,aB h rfl⟩
 | i+1,hr=>simp [Tr.f] at hr
theorem tD(w:World):Calls Tryz.prog 5 #[] w fun e w'=>e=.returned (.bool true)/\Below w.heap.size w w':=by
 have SC:=aA (fun V=>yX (w:=V) 97 (by omega))
 have SD:=aA (fun V=>yX (w:=V) 98 (by omega))
 have E0:Hid (E13 w w.heap.size [] (w.alloc (.cells #[.bool false,.bool false] 27))):=aA ⟨bz9,aD w _,fun p hp=>by cases hp⟩
 go_enter Tryz.func5,Tryz.ntmps5
 go_upto_region 2 with fail
 generalize (w.alloc (.cells #[.bool false,.bool false] 27))=V1 at E0 ⊢
 obtain⟨bm,hbm⟩:∃ b,w.heap.size=b:=⟨_,rfl⟩
 rw [show (Value.pointer (some ⟨w.heap.size,0,none⟩))=Value.pointer (some ⟨bm,0,none⟩) by rw [hbm]]
 have E1:Hid (E13 w bm [] V1):=by rw [<- hbm];exact E0
 clear E0 hbm
 go_upto_region 3 with (go_at_call 18;(with_reducible refine(SC.out _).mono ?_);rintro e w2 ⟨ta,rfl,h1,-,h3,h4⟩;have E2:=aA ((E1.out.kept h4).put h1.tb);have HA:=aA (h3.trans (aJ4 97).symm);clear h1 h3 h4)
 obtain⟨ba,hba⟩:∃ b,w2.heap.size=b:=⟨_,rfl⟩
 generalize (w2.alloc (.cells #[.int .i64 ta.f.k,.int .i64 ta.f.n,.int .i64 ta.f.mn,.int .i64 ta.f.mx,.slice ta.f.rq ta.f.rs.length ta.f.rc,.slice ta.f.kq ta.f.kl ta.f.kc] 25))=V2 at E2 ⊢
 rw [hba] at E2 ⊢
 clear hba E1 SC
 have A2:=E2.out.at' (ba,ta) (by simp)
 obtain⟨a0,a1,a2,a3,a4,a5⟩:=(show BoxN V2 ba ta.f from A2.1).six
 simp only [m7] at a1 a2 a3 a4 a5
 obtain⟨r31,r32⟩:=E2.out.row [ta] (fun u hu=>by simp at hu;subst hu;exact A2.2) (by simp) 9 0 (-1)
 have E3:Hid (E13 w bm [(V2.heap.size+1,qA 9 0 (-1) V2.heap.size [ta]),(ba,ta)] ((V2.alloc (.cells #[.int .i64 ta.f.k,.int .i64 ta.f.n,.int .i64 ta.f.mn,.int .i64 ta.f.mx,.slice ta.f.rq ta.f.rs.length ta.f.rc,.slice ta.f.kq ta.f.kl ta.f.kc] 25)).alloc (.cells #[.int .i64 9,.int .i64 0,.int .i64 0,.int .i64 (-1),.slice none 0 0,.slice (some ⟨V2.heap.size,0,none⟩) 1 1] 25))):=aA (by
  have:=r31.put r32
  simp only [v9] at this
  exact this)
 have HST:=aA (show er (qA 9 0 (-1) V2.heap.size [ta])=te stP by rw [jK];unfold stP;rw [te,aBI,HA.out])
 clear r31 r32 A2
 go_upto_region 4 with fail
 generalize hts:qA 9 0 (-1) V2.heap.size [ta]=ts at E3 HST
 generalize ((V2.alloc (.cells #[.int .i64 ta.f.k,.int .i64 ta.f.n,.int .i64 ta.f.mn,.int .i64 ta.f.mx,.slice ta.f.rq ta.f.rs.length ta.f.rc,.slice ta.f.kq ta.f.kl ta.f.kc] 25)).alloc (.cells #[.int .i64 9,.int .i64 0,.int .i64 0,.int .i64 (-1),.slice none 0 0,.slice (some ⟨V2.heap.size,0,none⟩) 1 1] 25))=V3 at E3 ⊢
 obtain⟨bs,hbs⟩:∃ b,V2.heap.size+1=b:=⟨_,rfl⟩
 rw [hbs] at E3 ⊢
 clear hts hbs E2 a0 a1 a2 a3 a4 a5
 have A4:=E3.out.at' (ba,ta) (by simp)
 obtain⟨a0,a1,a2,a3,a4,a5⟩:=(show BoxN V3 ba ta.f from A4.1).six
 simp only [m7] at a1 a2 a3 a4 a5
 have R4:=aA (E3.out.row [ta] (fun u hu=>by simp at hu;subst hu;exact A4.2) (by simp) 9 1 1)
 have m0:(V3.alloc (.cells #[.int .i64 ta.f.k,.int .i64 ta.f.n,.int .i64 ta.f.mn,.int .i64 ta.f.mx,.slice ta.f.rq ta.f.rs.length ta.f.rc,.slice ta.f.kq ta.f.kl ta.f.kc] 25)).cell? ⟨bm,0,none⟩=some (.bool false):=aB R4.out.1.mode (i:=0) rfl
 have m1:(V3.alloc (.cells #[.int .i64 ta.f.k,.int .i64 ta.f.n,.int .i64 ta.f.mn,.int .i64 ta.f.mx,.slice ta.f.rq ta.f.rs.length ta.f.rc,.slice ta.f.kq ta.f.kl ta.f.kc] 25)).cell? ⟨bm,1,none⟩=some (.bool false):=aB R4.out.1.mode (i:=1) rfl
 have SM4:Hid (Calls Tryz.prog 7 #[.agg #[.int .i64 9,.int .i64 0,.int .i64 1,.int .i64 1,.slice none 0 0,.slice (some ⟨V3.heap.size,0,none⟩) 1 1],.agg #[.bool false,.bool false]] (V3.alloc (.cells #[.int .i64 ta.f.k,.int .i64 ta.f.n,.int .i64 ta.f.mn,.int .i64 ta.f.mx,.slice ta.f.rq ta.f.rs.length ta.f.rc,.slice ta.f.kq ta.f.kl ta.f.kc] 25)) fun e w'=>∃ t':Tr,e=.returned (.tuple #[.agg #[.int .i64 t'.f.k,.int .i64 t'.f.n,.int .i64 t'.f.mn,.int .i64 t'.f.mx,.slice t'.f.rq t'.f.rs.length t'.f.rc,.slice t'.f.kq t'.f.kl t'.f.kc],.int .i64 0])/\TA w' t'/\Foot (fun k=>(V3.alloc (.cells #[.int .i64 ta.f.k,.int .i64 ta.f.n,.int .i64 ta.f.mn,.int .i64 ta.f.mx,.slice ta.f.rq ta.f.rs.length ta.f.rc,.slice ta.f.kq ta.f.kl ta.f.kc] 25)).heap.size<=k) t'/\er t'=te (chP 97)/\Below (V3.alloc (.cells #[.int .i64 ta.f.k,.int .i64 ta.f.n,.int .i64 ta.f.mn,.int .i64 ta.f.mx,.slice ta.f.rq ta.f.rs.length ta.f.rc,.slice ta.f.kq ta.f.kl ta.f.kc] 25)).heap.size (V3.alloc (.cells #[.int .i64 ta.f.k,.int .i64 ta.f.n,.int .i64 ta.f.mn,.int .i64 ta.f.mx,.slice ta.f.rq ta.f.rs.length ta.f.rc,.slice ta.f.kq ta.f.kl ta.f.kc] 25)) w'):=aA (by
  have:=gD (c:=false) (o:=false) R4.out.2 (x:=x1P) (by rw [jK];unfold x1P;rw [te,aBI,HA.out]) bO5
  rw [bH6] at this
  exact this)
 clear A4
 go_upto_region 5 with (go_at_call 7;(with_reducible refine SM4.out.mono ?_);rintro e w4 ⟨tx,rfl,h1,-,h3,h4⟩;have E4:=aA ((R4.out.1.kept h4).put h1.tb);have HX:=aA h3;clear h1 h3 h4)
 obtain⟨bx,hbx⟩:∃ b,w4.heap.size=b:=⟨_,rfl⟩
 generalize (w4.alloc (.cells #[.int .i64 tx.f.k,.int .i64 tx.f.n,.int .i64 tx.f.mn,.int .i64 tx.f.mx,.slice tx.f.rq tx.f.rs.length tx.f.rc,.slice tx.f.kq tx.f.kl tx.f.kc] 25))=V4 at E4 ⊢
 rw [hbx] at E4 ⊢
 clear hbx a0 a1 a2 a3 a4 a5 m0 m1 R4 SM4 E3
 have A5:=E4.out.at' (bs,ts) (by simp)
 obtain⟨a0,a1,a2,a3,a4,a5⟩:=(show BoxN V4 bs ts.f from A5.1).six
 simp only [m7] at a1 a2 a3 a4 a5
 have R5:=aA (E4.out.row [ts] (fun u hu=>by simp at hu;subst hu;exact A5.2) (by simp) 9 0 (-1))
 have m0:(V4.alloc (.cells #[.int .i64 ts.f.k,.int .i64 ts.f.n,.int .i64 ts.f.mn,.int .i64 ts.f.mx,.slice ts.f.rq ts.f.rs.length ts.f.rc,.slice ts.f.kq ts.f.kl ts.f.kc] 25)).cell? ⟨bm,0,none⟩=some (.bool false):=aB R5.out.1.mode (i:=0) rfl
 have m1:(V4.alloc (.cells #[.int .i64 ts.f.k,.int .i64 ts.f.n,.int .i64 ts.f.mn,.int .i64 ts.f.mx,.slice ts.f.rq ts.f.rs.length ts.f.rc,.slice ts.f.kq ts.f.kl ts.f.kc] 25)).cell? ⟨bm,1,none⟩=some (.bool false):=aB R5.out.1.mode (i:=1) rfl
 have SM5:Hid (Calls Tryz.prog 7 #[.agg #[.int .i64 9,.int .i64 0,.int .i64 0,.int .i64 (-1),.slice none 0 0,.slice (some ⟨V4.heap.size,0,none⟩) 1 1],.agg #[.bool false,.bool false]] (V4.alloc (.cells #[.int .i64 ts.f.k,.int .i64 ts.f.n,.int .i64 ts.f.mn,.int .i64 ts.f.mx,.slice ts.f.rq ts.f.rs.length ts.f.rc,.slice ts.f.kq ts.f.kl ts.f.kc] 25)) fun e w'=>∃ t':Tr,e=.returned (.tuple #[.agg #[.int .i64 t'.f.k,.int .i64 t'.f.n,.int .i64 t'.f.mn,.int .i64 t'.f.mx,.slice t'.f.rq t'.f.rs.length t'.f.rc,.slice t'.f.kq t'.f.kl t'.f.kc],.int .i64 0])/\TA w' t'/\Foot (fun k=>(V4.alloc (.cells #[.int .i64 ts.f.k,.int .i64 ts.f.n,.int .i64 ts.f.mn,.int .i64 ts.f.mx,.slice ts.f.rq ts.f.rs.length ts.f.rc,.slice ts.f.kq ts.f.kl ts.f.kc] 25)).heap.size<=k) t'/\er t'=te stP/\Below (V4.alloc (.cells #[.int .i64 ts.f.k,.int .i64 ts.f.n,.int .i64 ts.f.mn,.int .i64 ts.f.mx,.slice ts.f.rq ts.f.rs.length ts.f.rc,.slice ts.f.kq ts.f.kl ts.f.kc] 25)).heap.size (V4.alloc (.cells #[.int .i64 ts.f.k,.int .i64 ts.f.n,.int .i64 ts.f.mn,.int .i64 ts.f.mx,.slice ts.f.rq ts.f.rs.length ts.f.rc,.slice ts.f.kq ts.f.kl ts.f.kc] 25)) w'):=aA (by
  have:=gD (c:=false) (o:=false) R5.out.2 (x:=x2P) (by rw [jK];unfold x2P;rw [te,aBI,HST.out]) bO4
  rw [bH5] at this
  exact this)
 clear A5
 go_upto_region 6 with (go_at_call 7;(with_reducible refine SM5.out.mono ?_);rintro e w5 ⟨ty,rfl,h1,-,h3,h4⟩;have E5:=aA ((R5.out.1.kept h4).put h1.tb);have HY:=aA h3;clear h1 h3 h4)
 obtain⟨by5,hbx⟩:∃ b,w5.heap.size=b:=⟨_,rfl⟩
 generalize (w5.alloc (.cells #[.int .i64 ty.f.k,.int .i64 ty.f.n,.int .i64 ty.f.mn,.int .i64 ty.f.mx,.slice ty.f.rq ty.f.rs.length ty.f.rc,.slice ty.f.kq ty.f.kl ty.f.kc] 25))=V5 at E5 ⊢
 rw [hbx] at E5 ⊢
 clear hbx a0 a1 a2 a3 a4 a5 m0 m1 R5 SM5 E4
 go_cut [8,9] (fun u v wx=>∃ B,u=.pointer (some ⟨B,0,none⟩)/\v=.int .i64 0/\RB wx B (te (.lf 2 0 [(97,98)]))/\Below V5.heap.size V5 wx)
 case first=>
  have BA:=(E5.out.at' (ba,ta) (by simp)).1
  have TAA:=aA (E5.out.at' (ba,ta) (by simp)).2
  change BoxN V5 ba ta.f at BA
  have ra0:∀ V:World,SJ V5 V->V.cell? ⟨ba,0,none⟩=some (.int .i64 ta.f.k):=fun V h=>(h.six BA).1
  have ra1:∀ V:World,SJ V5 V->V.cell? ⟨ba,1,none⟩=some (.int .i64 ta.f.n):=fun V h=>(h.six BA).2.1
  have ra2:∀ V:World,SJ V5 V->V.cell? ⟨ba,2,none⟩=some (.int .i64 ta.f.mn):=fun V h=>(h.six BA).2.2.1
  have ra3:∀ V:World,SJ V5 V->V.cell? ⟨ba,3,none⟩=some (.int .i64 ta.f.mx):=fun V h=>(h.six BA).2.2.2.1
  have ra4:∀ V:World,SJ V5 V->V.cell? ⟨ba,4,none⟩=some (.slice ta.f.rq ta.f.rs.length ta.f.rc):=fun V h=>(h.six BA).2.2.2.2.1
  have ra5:∀ V:World,SJ V5 V->V.cell? ⟨ba,5,none⟩=some (.slice ta.f.kq ta.f.kl ta.f.kc):=fun V h=>(h.six BA).2.2.2.2.2
  have rm0:∀ V:World,SJ V5 V->V.cell? ⟨bm,0,none⟩=some (.bool false):=fun V h=>aB ((h.out.block _ (aC E5.out.mode)).trans E5.out.mode) (i:=0) rfl
  have rm1:∀ V:World,SJ V5 V->V.cell? ⟨bm,1,none⟩=some (.bool false):=fun V h=>aB ((h.out.block _ (aC E5.out.mode)).trans E5.out.mode) (i:=1) rfl
  have SMQ:Hid (∀ (U:World) (g:Nat) (tb:Tr),SJ V5 U->TB U tb->er tb=te (chP 98)->U.heap[g]?=some (.cells #[.int .i64 ta.f.k,.int .i64 ta.f.n,.int .i64 ta.f.mn,.int .i64 ta.f.mx,.slice ta.f.rq ta.f.rs.length ta.f.rc,.slice ta.f.kq ta.f.kl ta.f.kc,.int .i64 tb.f.k,.int .i64 tb.f.n,.int .i64 tb.f.mn,.int .i64 tb.f.mx,.slice tb.f.rq tb.f.rs.length tb.f.rc,.slice tb.f.kq tb.f.kl tb.f.kc,.int .i64 ta.f.k,.int .i64 ta.f.n,.int .i64 ta.f.mn,.int .i64 ta.f.mx,.slice ta.f.rq ta.f.rs.length ta.f.rc,.slice ta.f.kq ta.f.kl ta.f.kc] 25 (0,0))->Calls Tryz.prog 7 #[.agg #[.int .i64 6,.int .i64 0,.int .i64 0,.int .i64 0,.slice none 0 0,.slice (some ⟨g,0,none⟩) 3 3],.agg #[.bool false,.bool false]] U fun e w'=>∃ t':Tr,e=.returned (.tuple #[.agg #[.int .i64 t'.f.k,.int .i64 t'.f.n,.int .i64 t'.f.mn,.int .i64 t'.f.mx,.slice t'.f.rq t'.f.rs.length t'.f.rc,.slice t'.f.kq t'.f.kl t'.f.kc],.int .i64 0])/\TA w' t'/\er t'=te (.lf 2 0 [(97,98)])/\Foot (fun k=>U.heap.size<=k) t'/\Below U.heap.size U w'):=aA fun U g tb hS hT hE hg=>by
   have ht:TB U (qA 6 0 0 g [ta,tb,ta]):=aJ7 6 0 0 0 (us:=[ta,tb,ta]) hg (fun u hu=>by
    simp at hu
    rcases hu with rfl | rfl | rfl
    ·exact TAA.out.kept hS.out
    ·exact hT
    ·exact TAA.out.kept hS.out) (by simp)
   have:=gD (c:=false) (o:=false) ht (x:=x3P) (by rw [jK];unfold x3P;rw [te,bP];simp [HA.out,hE]) bO3
   rw [bH4] at this
   exact this.mono fun e w' ⟨t',h1,h2,h3,h4,h5⟩=>⟨t',h1,h2,h4,h3,h5⟩
  clear BA
  go_region_held (fun V=>SJ V5 V) ((first | with_reducible assumption | with_reducible exact SJ.drew _ | with_reducible exact SJ.alloc (by assumption) _ | with_reducible exact SJ.ad (by assumption) _ | with_reducible exact(((((S6.set (by omega) _ _).set (by omega) _ _).set (by omega) _ _).set (by omega) _ _).set (by omega) _ _).set (by omega) _ _)) (first |(go_at_call 7;(have q5:=T5.out);clear q5;refine(SMQ.out _ _ t5 (by with_reducible assumption) (by(first | exact T5.out.tb.kept (vY _ _) | exact T5.out.tb.kept (bQ3 _ _ _))) X5.out (by(with_reducible first | exact aD _ _ | exact bE5 _ _ | exact sP _ _ _ | exact sO _ _ _ | exact aE1 _ _ _ | exact aE0 _ _ _))).mono ?_;rintro e w6 ⟨t6,rfl,g1,g2,g3,g4⟩;have T6:=aA g1;have X6:=aA g2;have S6:SJ V5 w6:=SJ.call (by with_reducible assumption) g4;first |(have Z6:w6.heap[V5.heap.size]?=some (.cells #[.int .i64 0,.int .i64 0,.int .i64 0,.int .i64 0,.slice none 0 0,.slice none 0 0] 25 (0,0))/\Foot (fun i=>V5.heap.size<i) t6:=aH6 (bQ2 Z5 _) g4 g3;have zf:=fun z=>aK Z6.1 z;have z0:=aB Z6.1 (i:=0) rfl;have z1:=aB Z6.1 (i:=1) rfl;have z2:=aB Z6.1 (i:=2) rfl;have z3:=aB Z6.1 (i:=3) rfl;have z4:=aB Z6.1 (i:=4) rfl;have z5:=aB Z6.1 (i:=5) rfl) |(have Z6:w6.heap[w5.heap.size]?=some (.cells #[.int .i64 0,.int .i64 0,.int .i64 0,.int .i64 0,.slice none 0 0,.slice none 0 0] 25 (0,0))/\Foot (fun i=>w5.heap.size<i) t6:=aH6 (sP _ _ _) g4 g3;have zf:=fun z=>aK Z6.1 z;have z0:=aB Z6.1 (i:=0) rfl;have z1:=aB Z6.1 (i:=1) rfl;have z2:=aB Z6.1 (i:=2) rfl;have z3:=aB Z6.1 (i:=3) rfl;have z4:=aB Z6.1 (i:=4) rfl;have z5:=aB Z6.1 (i:=5) rfl) |(have Z6:w6.heap[w5.heap.size+1]?=some (.cells #[.int .i64 0,.int .i64 0,.int .i64 0,.int .i64 0,.slice none 0 0,.slice none 0 0] 25 (0,0))/\Foot (fun i=>w5.heap.size+1<i) t6:=aH6 (sO _ _ _) g4 g3;have zf:=fun z=>aK Z6.1 z;have z0:=aB Z6.1 (i:=0) rfl;have z1:=aB Z6.1 (i:=1) rfl;have z2:=aB Z6.1 (i:=2) rfl;have z3:=aB Z6.1 (i:=3) rfl;have z4:=aB Z6.1 (i:=4) rfl;have z5:=aB Z6.1 (i:=5) rfl) | skip;clear g1 g2 g3 g4) |(go_at_call 18;refine(SD.out _).mono ?_;rintro e w5 ⟨t5,rfl,g1,g2,g3,g4⟩;have T5:=aA g1;have X5:=aA (g3.trans (aJ4 98).symm);have S5:SJ V5 w5:=SJ.call (by with_reducible assumption) g4;have l5:=S5.size;first |(have Z5:w5.heap[V5.heap.size]?=some (.cells #[.int .i64 0,.int .i64 0,.int .i64 0,.int .i64 0,.slice none 0 0,.slice none 0 0] 25 (0,0)):=(by with_reducible exact bD7 (bE5 _ _) g4)) | skip;clear g1 g2 g3 g4))
  all_goals go_wp2_with fail
  all_goals go_meet
  all_goals first |(with_reducible exact⟨_,rfl,rfl,bB9 S6 (by omega) Z6 T6.out X6.out⟩) |(with_reducible exact⟨_,rfl,rfl,bC0 S6 T6.out X6.out⟩)
 case rest=>
 obtain⟨b8,rfl,rfl,⟨tz,hz1,hz2,hz3⟩,hbl⟩:=hcut
 have E6:=aA ((E5.out.kept hbl).add hz1 hz2.tb)
 have HZ:=aA hz3
 clear E5 hz1 hz2 hz3 hbl
 have A7:=E6.out.at' (ba,ta) (by simp)
 obtain⟨a0,a1,a2,a3,a4,a5⟩:=(show BoxN wc ba ta.f from A7.1).six
 simp only [m7] at a1 a2 a3 a4 a5
 have R7:=aA (E6.out.row [ta] (fun u hu=>by simp at hu;subst hu;exact A7.2) (by simp) 5 0 0)
 have m0:(wc.alloc (.cells #[.int .i64 ta.f.k,.int .i64 ta.f.n,.int .i64 ta.f.mn,.int .i64 ta.f.mx,.slice ta.f.rq ta.f.rs.length ta.f.rc,.slice ta.f.kq ta.f.kl ta.f.kc] 25)).cell? ⟨bm,0,none⟩=some (.bool false):=aB R7.out.1.mode (i:=0) rfl
 have m1:(wc.alloc (.cells #[.int .i64 ta.f.k,.int .i64 ta.f.n,.int .i64 ta.f.mn,.int .i64 ta.f.mx,.slice ta.f.rq ta.f.rs.length ta.f.rc,.slice ta.f.kq ta.f.kl ta.f.kc] 25)).cell? ⟨bm,1,none⟩=some (.bool false):=aB R7.out.1.mode (i:=1) rfl
 have SM7:Hid (Calls Tryz.prog 7 #[.agg #[.int .i64 5,.int .i64 0,.int .i64 0,.int .i64 0,.slice none 0 0,.slice (some ⟨wc.heap.size,0,none⟩) 1 1],.agg #[.bool false,.bool false]] (wc.alloc (.cells #[.int .i64 ta.f.k,.int .i64 ta.f.n,.int .i64 ta.f.mn,.int .i64 ta.f.mx,.slice ta.f.rq ta.f.rs.length ta.f.rc,.slice ta.f.kq ta.f.kl ta.f.kc] 25)) fun e w'=>e=.returned (.tuple #[.agg #[.int .i64 0,.int .i64 0,.int .i64 0,.int .i64 0,.slice none 0 0,.slice none 0 0],.int .i64 50])/\Below (wc.alloc (.cells #[.int .i64 ta.f.k,.int .i64 ta.f.n,.int .i64 ta.f.mn,.int .i64 ta.f.mx,.slice ta.f.rq ta.f.rs.length ta.f.rc,.slice ta.f.kq ta.f.kl ta.f.kc] 25)).heap.size (wc.alloc (.cells #[.int .i64 ta.f.k,.int .i64 ta.f.n,.int .i64 ta.f.mn,.int .i64 ta.f.mx,.slice ta.f.rq ta.f.rs.length ta.f.rc,.slice ta.f.kq ta.f.kl ta.f.kc] 25)) w'):=aA (by
  have hr:aZ false false 0 0 (pp [] (qA 5 0 0 wc.heap.size [ta]))=50:=bC7 (by rw [jK,aBI,HA.out,aJ4])
  have:=lX false false R7.out.2 (by rw [hr];decide)
  rw [hr] at this
  exact this)
 clear A7
 go_upto_region 8 with (go_at_call 7;(with_reducible refine SM7.out.mono ?_);rintro e w7 ⟨rfl,h4⟩;have E7:=aA ((R7.out.1.kept h4).kept (vY _ (.cells #[.int .i64 0,.int .i64 0,.int .i64 0,.int .i64 0,.slice none 0 0,.slice none 0 0] 25)));clear h4)
 generalize (w7.alloc (.cells #[.int .i64 0,.int .i64 0,.int .i64 0,.int .i64 0,.slice none 0 0,.slice none 0 0] 25))=V7 at E7 ⊢
 clear a0 a1 a2 a3 a4 a5 m0 m1 R7 SM7 E6
 have A8:=E7.out.at' (bx,tx) (by simp)
 have C8:=E7.out.at' (ba,ta) (by simp)
 obtain⟨a0,a1,a2,a3,a4,a5⟩:=(show BoxN V7 bx tx.f from A8.1).six
 obtain⟨d0,d1,d2,d3,d4,d5⟩:=(show BoxN V7 ba ta.f from C8.1).six
 simp only [m7] at a1 a2 a3 a4 a5 d1 d2 d3 d4 d5
 have RS8:Hid (Calls Tryz.prog 16 #[.agg #[.int .i64 tx.f.k,.int .i64 tx.f.n,.int .i64 tx.f.mn,.int .i64 tx.f.mx,.slice tx.f.rq tx.f.rs.length tx.f.rc,.slice tx.f.kq tx.f.kl tx.f.kc],.agg #[.int .i64 ta.f.k,.int .i64 ta.f.n,.int .i64 ta.f.mn,.int .i64 ta.f.mx,.slice ta.f.rq ta.f.rs.length ta.f.rc,.slice ta.f.kq ta.f.kl ta.f.kc]] V7 fun e w'=>e=.returned (.bool true)/\Below V7.heap.size V7 w'):=aA ((wV A8.2 C8.2).mono fun e w' ⟨h1,h2⟩=>⟨by rw [h1];show Ending.returned (.bool (rsB tx ta))=_;rw [wW (HX.out.trans HA.out.symm) (by rw [<- mT,HX.out,pJ];simp [chP,Ps.sz])],h2⟩)
 clear A8 C8
 go_upto_region 9 with (go_at_call 16;(with_reducible refine RS8.out.mono ?_);rintro e w8 ⟨rfl,h1⟩;have E8:=aA (E7.out.kept h1);clear h1)
 clear a0 a1 a2 a3 a4 a5 d0 d1 d2 d3 d4 d5 RS8 E7
 have A9:=E8.out.at' (by5,ty) (by simp)
 have C9:=E8.out.at' (bs,ts) (by simp)
 obtain⟨a0,a1,a2,a3,a4,a5⟩:=(show BoxN w8 by5 ty.f from A9.1).six
 obtain⟨d0,d1,d2,d3,d4,d5⟩:=(show BoxN w8 bs ts.f from C9.1).six
 simp only [m7] at a1 a2 a3 a4 a5 d1 d2 d3 d4 d5
 have RS9:Hid (Calls Tryz.prog 16 #[.agg #[.int .i64 ty.f.k,.int .i64 ty.f.n,.int .i64 ty.f.mn,.int .i64 ty.f.mx,.slice ty.f.rq ty.f.rs.length ty.f.rc,.slice ty.f.kq ty.f.kl ty.f.kc],.agg #[.int .i64 ts.f.k,.int .i64 ts.f.n,.int .i64 ts.f.mn,.int .i64 ts.f.mx,.slice ts.f.rq ts.f.rs.length ts.f.rc,.slice ts.f.kq ts.f.kl ts.f.kc]] w8 fun e w'=>e=.returned (.bool true)/\Below w8.heap.size w8 w'):=aA ((wV A9.2 C9.2).mono fun e w' ⟨h1,h2⟩=>⟨by rw [h1];show Ending.returned (.bool (rsB ty ts))=_;rw [wW (HY.out.trans HST.out.symm) (by rw [<- mT,HY.out,pJ];simp [stP,chP,Ps.sz])],h2⟩)
 clear A9 C9
 go_upto_region 10 with (go_at_call 16;(with_reducible refine RS9.out.mono ?_);rintro e w9 ⟨rfl,h1⟩;have E9:=aA (E8.out.kept h1);clear h1)
 clear a0 a1 a2 a3 a4 a5 d0 d1 d2 d3 d4 d5 RS9 E8
 have A10:=E9.out.at' (b8,tz) (by simp)
 obtain⟨a0,a1,a2,a3,a4,a5⟩:=(show BoxN w9 b8 tz.f from A10.1).six
 simp only [m7] at a1 a2 a3 a4 a5
 have KR10:Below w9.heap.size w9 (w9.alloc (.cells #[.int .i64 97,.int .i64 98] 53)):=vY _ _
 have RS10:Hid (Calls Tryz.prog 16 #[.agg #[.int .i64 tz.f.k,.int .i64 tz.f.n,.int .i64 tz.f.mn,.int .i64 tz.f.mx,.slice tz.f.rq tz.f.rs.length tz.f.rc,.slice tz.f.kq tz.f.kl tz.f.kc],.agg #[.int .i64 2,.int .i64 0,.int .i64 0,.int .i64 0,.slice (some ⟨w9.heap.size,0,none⟩) 1 1,.slice none 0 0]] (w9.alloc (.cells #[.int .i64 97,.int .i64 98] 53)) fun e w'=>e=.returned (.bool true)/\Below (w9.alloc (.cells #[.int .i64 97,.int .i64 98] 53)).heap.size (w9.alloc (.cells #[.int .i64 97,.int .i64 98] 53)) w'):=aA ((wV (A10.2.kept KR10) (aW1 (aD w9 _) (gJ (by omega)))).mono fun e w' ⟨h1,h2⟩=>⟨by
  rw [h1]
  show Ending.returned (.bool (rsB tz _))=_
  rw [wW (by rw [HZ.out,te,bY];rfl) (by rw [<- mT,HZ.out,pJ];simp [Ps.sz])],h2⟩)
 have EB:=aA (aG E9.out.bel KR10 lz9)
 clear A10 KR10
 go_wp2_with (go_at_call 16;(with_reducible refine RS10.out.mono ?_);rintro e w10 ⟨rfl,h1⟩;have B10:=aA (aG EB.out h1 lz9);clear h1)
 go_ret
 exact⟨rfl,B10.out⟩
end
section
attribute [local go_sem] Oper.semAt_some
theorem bB8{w:World}{t:Tr}(c o:Bool)(hta:TB w t)(hsm:Sm t):Calls Tryz.prog 8 #[.agg #[.int .i64 t.f.k,.int .i64 t.f.n,.int .i64 t.f.mn,.int .i64 t.f.mx,.slice t.f.rq t.f.rs.length t.f.rc,.slice t.f.kq t.f.kl t.f.kc],.agg #[.bool c,.bool o]] w fun e w'=>e=.returned (.int .i64 (tvI (kV c) c o t))/\Below w.heap.size w w':=by
 have X1:Hid (Bx2 w ((w.alloc (.cells #[.int .i64 t.f.k,.int .i64 t.f.n,.int .i64 t.f.mn,.int .i64 t.f.mx,.slice t.f.rq t.f.rs.length t.f.rc,.slice t.f.kq t.f.kl t.f.kc] 25)).alloc (.cells #[.bool c,.bool o] 27)) t.f c o):=⟨(bz9).alloc (by simp) _,(Below.heap_alloc _ _ _ (by simp)).trans (aD w _),nF _ (by simp only [v9])⟩
 have HTA:=aA hta
 have HSM:=aA hsm
 have HV:=aA (bG2 c o t)
 clear hta hsm
 go_enter Tryz.func8,Tryz.ntmps8
 go_upto_region 1 with fail
 generalize ((w.alloc (.cells #[.int .i64 t.f.k,.int .i64 t.f.n,.int .i64 t.f.mn,.int .i64 t.f.mx,.slice t.f.rq t.f.rs.length t.f.rc,.slice t.f.kq t.f.kl t.f.kc] 25)).alloc (.cells #[.bool c,.bool o] 27))=w1 at X1 ⊢
 obtain⟨n0,n1,n2,n3,n4,n5⟩:=X1.out.2.1.six
 simp only [m7] at n1 n2 n3 n4 n5
 have a0:=aB X1.out.2.2 (i:=0) rfl
 have a1:=aB X1.out.2.2 (i:=1) rfl
 have RT:=aA (aC6 c o (HTA.out.kept X1.out.1) HSM.out)
 by_cases hr:aZ c o 0 0 (pp [] t)=0
 ·have HR:=aA hr
  rw [aAM hr] at RT
  rw [if_pos hr] at HV
  clear hr
  have CS:Hid (∀ W,Below w.heap.size w W->Calls Tryz.prog 25 #[.agg #[.int .i64 t.f.k,.int .i64 t.f.n,.int .i64 t.f.mn,.int .i64 t.f.mx,.slice t.f.rq t.f.rs.length t.f.rc,.slice t.f.kq t.f.kl t.f.kc],.agg #[.bool c,.bool o]] W fun e w'=>e=.returned (.int .i64 (sG c t))/\Below W.heap.size W w'):=fun W hW=>aA0 c o t.sz t W lz9 (aM1 HR.out) (HTA.out.kept hW) (uC HR.out)
  obtain⟨X,hX⟩:∃ X,sG c t=X:=⟨_,rfl⟩
  rw [hX] at HV CS
  clear hX
  go_upto_region 4 with (go_at_call 24;refine(RT.out).mono ?_;rintro e w2 ⟨rfl,h2⟩;have X2:=aA (X1.out.kept h2);clear h2)
  clear n0 n1 n2 n3 n4 n5 a0 a1
  obtain⟨n0,n1,n2,n3,n4,n5⟩:=X2.out.2.1.six
  simp only [m7] at n1 n2 n3 n4 n5
  have a0:=aB X2.out.2.2 (i:=0) rfl
  have a1:=aB X2.out.2.2 (i:=1) rfl
  go_wp2_with (go_at_call 25;refine(CS.out _ X2.out.1).mono ?_;rintro e w3 ⟨rfl,h3⟩;have B3:=aA (aG X2.out.1 h3 lz9);clear h3)
  go_ret
  exact⟨by rw [HV.out];rfl,B3.out⟩
 ·rw [r9 hr] at RT
  rw [if_neg hr] at HV
  clear hr
  go_wp2_with (go_at_call 24;refine(RT.out).mono ?_;rintro e w2 ⟨rfl,h2⟩;have B2:=aA (aG X1.out.1 h2 lz9);clear h2)
  go_ret
  exact⟨by rw [HV.out];rfl,B2.out⟩
end
section
open Go Go.RowKit Go.Shelf
attribute [local go_sem] Oper.semAt_some aU
structure LSm(w:World)(Ha Hb:Gh)(pq:Option Addr)(pc:Nat)(pl:List Nat)(rsa:List (Option Nat))(wka:Int)(mua:Bool)(rsb:List (Option Nat))(wkb:Int)(mub:Bool)(V:World):Prop where
 wa:WM Ha V rsa wka mua
 wb:WM Hb V rsb wkb mub
 apt:Apt2 Ha Hb rsa rsb
 fa:Foot (fun k=>k<Hb.base) Ha.t
 fb:Foot (fun k=>k<Ha.base) Hb.t
 pl:Ls12 Ha.base V pq pc pl
 bel:Below w.heap.size w V
 lo:w.heap.size<=Ha.base/\Ha.base<=Hb.base
variable {w V V':World} {Ha Hb:Gh} {pq:Option Addr} {pc:Nat} {pl:List Nat} {rsa rsa' rsb rsb':List (Option Nat)} {wka wka' wkb wkb':Int} {mua mua' mub mub':Bool}
theorem LSm.kept(h:LSm w Ha Hb pq pc pl rsa wka mua rsb wkb mub V)(hb:Below V.heap.size V V'):LSm w Ha Hb pq pc pl rsa wka mua rsb wkb mub V':=
 ⟨h.wa.below hb,h.wb.below hb,h.apt,h.fa,h.fb,h.pl.kept hb,aG h.bel hb lz9,h.lo⟩
theorem LSm.endsA(h:LSm w Ha Hb pq pc pl rsa wka mua rsb wkb mub V)(he:ES Ha V rsa wka mua V' rsa' wka' mua'):LSm w Ha Hb pq pc pl rsa' wka' mua' rsb wkb mub V':=
 ⟨he.wm,h.wb.other h.wa he.f h.apt h.fb,h.apt.left h.wb he.g,h.fa,h.fb,cT h.pl h.wa he.f (fun _ _ e=>e) ⟨by decide,by decide,by decide⟩,h.bel.trans (he.f.below h.bel.size (fun k q=>by
  rcases q with q | q
  ·have:=h.wa.wf_lo q;have:=h.lo;omega
  ·exact q.elim)),h.lo⟩
theorem LSm.endsB(h:LSm w Ha Hb pq pc pl rsa wka mua rsb wkb mub V)(he:ES Hb V rsb wkb mub V' rsb' wkb' mub'):LSm w Ha Hb pq pc pl rsa wka mua rsb' wkb' mub' V':=
 ⟨h.wa.other h.wb he.f h.apt.symm h.fa,he.wm,(h.apt.symm.left h.wa he.g).symm,h.fa,h.fb,cT h.pl h.wb he.f (fun _ _ e=>e) ⟨by decide,by decide,by decide⟩,h.bel.trans (he.f.below h.bel.size (fun k q=>by
  rcases q with q | q
  ·have:=h.wb.wf_lo q;have:=h.lo;omega
  ·exact q.elim)),h.lo⟩
theorem aK6{c o:Bool}{x:Ps}(h:∀ s∈pfl x,dG c o s){t:Tr}(e:er t=te x):∀ z∈pp [] t,z.2.f.rs.length<=600000:=by
 have key:∀ t:Tr,er t=te x->bF (fun v=>v.f.rs.length<=600000) t:=by
  refine Ps.ind (P:=fun x=>(∀ s∈pfl x,dG c o s)->∀ t:Tr,er t=te x->bF (fun v=>v.f.rs.length<=600000) t) (fun x ih=>?_) x h
  intro h t e
  refine(aI _).2 ⟨?_,(aT _).2 fun u hu=>?_⟩
  ·rw [<- yF,e]
   cases x with
   | lf k n rs=>
    rw [te]
    show rs.length<=_
    by_cases hk:k=2
    ·subst hk;exact mA ((h (.lf 2 n rs) (by rw [pfl];simp)).1 rfl).1.1
    ·rw [(h (.lf k n rs) (by rw [pfl];simp)).2.1 hk];simp
   | grp n y=>rw [te];simp [Er.rgs]
   | rep a b y=>rw [te];simp [Er.rgs]
   | row l=>rw [te];split <;> simp [Er.rgs]
   | alt l=>rw [te];simp [Er.rgs]
  ·have hm:er u∈x.kids.map te:=by rw [<- sX e];exact s4.2 ⟨u,hu,rfl⟩
   obtain⟨y,hy,ey⟩:=s4.1 hm
   exact ih y hy (fun s hs=>h s (oQ hy hs)) u ey.symm
 exact fun z hz=>((aI _).1 (fD t [] (key t e) z hz)).1
theorem xY{w:World}{t:Tr}(c o:Bool)(s:ByteArray)(hT:TB w t)(hf:∀ x∈pp [] t,x.2.f.rs.length<=1048576) :
  Calls Tryz.prog 3 #[.agg #[.int .i64 t.f.k,.int .i64 t.f.n,.int .i64 t.f.mn,.int .i64 t.f.mx,.slice t.f.rq t.f.rs.length t.f.rc,.slice t.f.kq t.f.kl t.f.kc],.string s,.agg #[.bool c,.bool o]] w fun e w'=>e=.returned (.bool true)/\Below w.heap.size w w':=by
 have hsm:∀ x∈pp [] t,x.2.f.rs.length<=1048580:=fun x hx=>o0 (hf x hx) (by omega)
 have X1:Hid (Bx2 w ((w.alloc (.cells #[.int .i64 t.f.k,.int .i64 t.f.n,.int .i64 t.f.mn,.int .i64 t.f.mx,.slice t.f.rq t.f.rs.length t.f.rc,.slice t.f.kq t.f.kl t.f.kc] 25)).alloc (.cells #[.bool c,.bool o] 27)) t.f c o):=⟨(bz9).alloc (by simp) _,(Below.heap_alloc _ _ _ (by simp)).trans (aD w _),nF _ (by simp only [v9])⟩
 have HTA:=aA hT
 have HSM:=aA hsm
 have EX:=aA (fun W=>tD W)
 have DR:=aA (fun W (hW:Below w.heap.size w W)=>sH c o (hT.kept hW) hsm)
 obtain⟨R,hR⟩:∃ R,aZ c o 0 0 (pp [] t)=R:=⟨_,rfl⟩
 rw [hR] at DR
 have HR:=aA hR
 clear hT hf hsm hR
 go_enter Tryz.func3,Tryz.ntmps3
 go_upto_region 1 with fail
 generalize ((w.alloc (.cells #[.int .i64 t.f.k,.int .i64 t.f.n,.int .i64 t.f.mn,.int .i64 t.f.mx,.slice t.f.rq t.f.rs.length t.f.rc,.slice t.f.kq t.f.kl t.f.kc] 25)).alloc (.cells #[.bool c,.bool o] 27))=w1 at X1 ⊢
 go_upto_region 2 with (go_at_call 5;(with_reducible refine(EX.out _).mono ?_);rintro e w2 ⟨rfl,h5⟩;have X2:=aA (X1.out.kept h5);clear h5)
 clear X1 EX
 obtain⟨n0,n1,n2,n3,n4,n5⟩:=X2.out.2.1.six
 simp only [m7] at n1 n2 n3 n4 n5
 have a0:=aB X2.out.2.2 (i:=0) rfl
 have a1:=aB X2.out.2.2 (i:=1) rfl
 have DR2:=aA (DR.out w2 X2.out.1)
 clear DR
 go_upto_region 3 with (go_at_call 6;(with_reducible refine(DR2.out).mono ?_);rintro e w3 ⟨rfl,h5⟩;have X3:=aA (X2.out.kept h5);clear h5)
 clear n0 n1 n2 n3 n4 n5 a0 a1 X2 DR2
 obtain⟨n0,n1,n2,n3,n4,n5⟩:=X3.out.2.1.six
 simp only [m7] at n1 n2 n3 n4 n5
 have a0:=aB X3.out.2.2 (i:=0) rfl
 have a1:=aB X3.out.2.2 (i:=1) rfl
 by_cases hr0:R=0
 ·subst hr0
  obtain⟨x,hex,hok⟩:=bO6 HR.out
  have HEX:=aA hex
  have HOK:=aA hok
  have SM:=aA (gD (HTA.out.kept X3.out.1) hex hok)
  clear hex hok
  go_upto_region 4 with (go_at_call 7;(with_reducible refine(SM.out).mono ?_);rintro e w4 ⟨m,rfl,h1,h2,h3,h4⟩;have X4:=aA ((X3.out.kept h4).kept (vY _ (.cells #[.int .i64 m.f.k,.int .i64 m.f.n,.int .i64 m.f.mn,.int .i64 m.f.mx,.slice m.f.rq m.f.rs.length m.f.rc,.slice m.f.kq m.f.kl m.f.kc] 25)));have M4:=aA (h1.tb.kept (vY _ (.cells #[.int .i64 m.f.k,.int .i64 m.f.n,.int .i64 m.f.mn,.int .i64 m.f.mx,.slice m.f.rq m.f.rs.length m.f.rc,.slice m.f.kq m.f.kl m.f.kc] 25)));have N4:Hid (BoxN (w4.alloc (.cells #[.int .i64 m.f.k,.int .i64 m.f.n,.int .i64 m.f.mn,.int .i64 m.f.mx,.slice m.f.rq m.f.rs.length m.f.rc,.slice m.f.kq m.f.kl m.f.kc] 25)) w4.heap.size m.f):=aA (aD w4 _);have HM:=aA h3;have hw4:=(aG X3.out.1 h4 lz9).size;clear h1 h2 h3 h4)
  clear n0 n1 n2 n3 n4 n5 a0 a1 X3 SM
  generalize (w4.alloc (.cells #[.int .i64 m.f.k,.int .i64 m.f.n,.int .i64 m.f.mn,.int .i64 m.f.mx,.slice m.f.rq m.f.rs.length m.f.rc,.slice m.f.kq m.f.kl m.f.kc] 25))=w5 at X4 M4 N4 ⊢
  obtain⟨bm,hbm⟩:∃ b,w4.heap.size=b:=⟨_,rfl⟩
  rw [hbm] at N4 hw4 ⊢
  have HMR:=aA (HOK.out.sim.right HM.out)
  have DM:Hid (∀ W,Below w5.heap.size w5 W->Calls Tryz.prog 6 #[.agg #[.int .i64 m.f.k,.int .i64 m.f.n,.int .i64 m.f.mn,.int .i64 m.f.mx,.slice m.f.rq m.f.rs.length m.f.rc,.slice m.f.kq m.f.kl m.f.kc],.agg #[.bool c,.bool o]] W fun e w'=>e=.returned (.int .i64 0)/\Below W.heap.size W w'):=aA fun W hW=>(sH c o (M4.out.kept hW) (fun z hz=>o0 (aK6 HOK.out.sim.sg HM.out z hz) (by omega))).mono fun e w' ⟨h1,h2⟩=>⟨by rw [h1,HMR.out],h2⟩
  have DM5:=aA (DM.out w5 (Below.refl _ _))
  clear hbm DM
  obtain⟨m0,m1,m2,m3,m4,m5⟩:=N4.out.six
  simp only [m7] at m1 m2 m3 m4 m5
  have a0:=aB X4.out.2.2 (i:=0) rfl
  have a1:=aB X4.out.2.2 (i:=1) rfl
  go_upto_region 8 with (go_at_call 6;(with_reducible refine(DM5.out).mono ?_);rintro e w6 ⟨rfl,h5⟩;have X6:=aA (X4.out.kept h5);have M6:=aA (M4.out.kept h5);have N6:Hid (BoxN w6 bm m.f):=aA ((h5.block _ (aC N4.out)).trans N4.out);clear h5)
  clear m0 m1 m2 m3 m4 m5 a0 a1 X4 M4 N4 DM5
  obtain⟨n0,n1,n2,n3,n4,n5⟩:=X6.out.2.1.six
  simp only [m7] at n1 n2 n3 n4 n5
  have a0:=aB X6.out.2.2 (i:=0) rfl
  have a1:=aB X6.out.2.2 (i:=1) rfl
  by_cases hl:30<s.size
  ·have hl1:(30:Int)<(s.size:Int):=by omega
   go_wp2
   go_ret
   exact⟨rfl,X6.out.1⟩
  ·have hl1:¬ (30:Int)<(s.size:Int):=by omega
   have DS:=aA (bB8 c o (HTA.out.kept X6.out.1) HSM.out)
   obtain⟨S,hS⟩:∃ S,tvI (kV c) c o t=S:=⟨_,rfl⟩
   rw [hS] at DS
   clear hS
   by_cases hS1:10000<S
   ·go_wp2_with (go_at_call 8;(with_reducible refine(DS.out).mono ?_);rintro e w7 ⟨rfl,h5⟩;have X7:=aA (X6.out.kept h5);clear h5)
    go_ret
    exact⟨rfl,X7.out.1⟩
   ·go_upto_region 10 with (go_at_call 8;(with_reducible refine(DS.out).mono ?_);rintro e w7 ⟨rfl,h5⟩;have X7:=aA (X6.out.kept h5);have M7:=aA (M6.out.kept h5);have N7:Hid (BoxN w7 bm m.f):=aA ((h5.block _ (aC N6.out)).trans N6.out);clear h5)
    clear n0 n1 n2 n3 n4 n5 a0 a1 X6 M6 N6 DS hS1
    obtain⟨n0,n1,n2,n3,n4,n5⟩:=X7.out.2.1.six
    simp only [m7] at n1 n2 n3 n4 n5
    have a0:=aB X7.out.2.2 (i:=0) rfl
    have a1:=aB X7.out.2.2 (i:=1) rfl
    have NW:=aA (zI (HTA.out.kept X7.out.1) HR.out (s:=s) (by omega))
    go_upto_region 11 with (go_at_call 9;(with_reducible refine(NW.out).mono ?_);rintro e w8 ⟨Ha,rsa,rfl,h1,h2,h3,h4,h5,h6,h7,h9,h8⟩;have WA:=aA h1;have KA:=aA h2;have TA1:=aA h3;have SA:=aA h4;have CA:=aA h5;have OA:=aA h6;have BA:=aA h7;have UA:=aA h9;have X8:=aA (X7.out.kept h8);have M8:=aA (M7.out.kept h8);have N8:Hid (BoxN w8 bm m.f):=aA ((h8.block _ (aC N7.out)).trans N7.out);have FM:=aA (M7.out.foot);have hs8:=h8.size;have hs7:=X7.out.1.size;clear h1 h2 h3 h4 h5 h6 h7 h8 h9)
    clear n0 n1 n2 n3 n4 n5 a0 a1 X7 M7 N7 NW
    obtain⟨m0,m1,m2,m3,m4,m5⟩:=N8.out.six
    simp only [m7] at m1 m2 m3 m4 m5
    have a0:=aB X8.out.2.2 (i:=0) rfl
    have a1:=aB X8.out.2.2 (i:=1) rfl
    have NV:=aA (zI M8.out HMR.out (s:=s) (by omega))
    go_upto_region 12 with (go_at_call 9;(with_reducible refine(NV.out).mono ?_);rintro e w9 ⟨Hb,rsb,rfl,h1,h2,h3,h4,h5,h6,h7,h9,h8⟩;have WB:=aA h1;have KB:=aA h2;have TB1:=aA h3;have SB:=aA h4;have CB:=aA h5;have OB:=aA h6;have BB:=aA h7;have UB:=aA h9;have X9:=aA (X8.out.kept h8);have WA9:=aA (WA.out.below h8);have hs9:=h8.size;clear h1 h2 h3 h4 h5 h6 h7 h8 h9)
    clear m0 m1 m2 m3 m4 m5 a0 a1 M8 N8 NV
    have a0:=aB X9.out.2.2 (i:=0) rfl
    have a1:=aB X9.out.2.2 (i:=1) rfl
    have AP:Hid (Apt2 Ha Hb rsa rsb):=aA fun k q r=>by
     have h1:=(WA.out.wf_ty q).1
     have h2:=WB.out.wf_lo r
     have:=BB.out
     omega
    have PC:=aA (uI s (by omega) c o w9)
    have SE:Hid (∀ a j,(∃ y,Mt Ha.L Ha.t (cf0 a) y/\y.p=j) ↔ ∃ y,Mt Hb.L Hb.t (cf0 a) y/\y.p=j):=aA fun a j=>aC4 HOK.out KA.out KB.out UA.out UB.out (by rw [TA1.out];exact HEX.out) (by rw [TB1.out];exact HM.out) (by rw [SA.out,SB.out]) (by rw [CA.out,CB.out]) (by rw [OA.out,OB.out]) a j
    go_upto_region 13 with (go_at_call 10;(with_reducible refine(PC.out).mono ?_);rintro e w10 ⟨pq,pc,pl,rfl,h1,h2,h3,h4⟩;have J10:=aA h2;have hpl:=h3;have L10:Hid (LSm w Ha Hb pq pc pl rsa 0 false rsb 0 false w10):=aA ⟨WA9.out.below h4,WB.out.below h4,AP.out,WA.out.tf.mono (fun k hk=>by have:=BA.out;have:=BB.out;omega),(by rw [TB1.out];exact FM.out.mono (fun k hk=>by have:=BA.out;omega)),h1.mono (by have:=BA.out;omega),(X9.out.kept h4).1,⟨by have:=BA.out;omega,by have:=BA.out;have:=BB.out;omega⟩⟩;clear h1 h2 h3 h4)
    clear a0 a1 X8 X9 WA WA9 WB AP PC hs8 hs9 hs7
    have HSA:Hid (∀ a:Nat,a<=s.size->a<=Ha.L.s.size):=aA fun a h=>by rw [SA.out];exact h
    have HSB:Hid (∀ a:Nat,a<=s.size->a<=Hb.L.s.size):=aA fun a h=>by rw [SB.out];exact h
    clear TA1 TB1 SA SB CA CB OA OB BA BB UA UB HMR HM FM HTA HSM HR HEX HOK
    go_upto_region 14 with fail
    go_loopw [14] (fun iv wr=>∃ (i:Nat) (ra:List (Option Nat)) (ka:Int) (rb:List (Option Nat)) (kb:Int) (ma mb:Bool),i<=pl.length/\iv=.int .i64 (i:Int)/\LSm w Ha Hb pq pc pl ra ka ma rb kb mb wr) (fun iv _=>pl.length-(intOf iv).toNat)
    case atStart=>exact⟨0,rsa,0,rsb,0,false,false,o9 _,rfl,L10.out⟩
    case round=>
     obtain⟨i,ra,ka,rb,kb,ma,mb,hi5,rfl,hl5⟩:=hrel
     have HL:=aA hl5
     clear hl5 L10
     by_cases hil:i<pl.length
     ·have i0:(i:Int)<(pl.length:Int):=by omega
      obtain⟨a,ha⟩:∃ a,pl[i]?=some a:=⟨_,g9 hil⟩
      have has:=J10.out a (n8 ha)
      obtain⟨gp,rfl,gp1,gp2,gp3⟩:=HL.out.pl.at (by omega)
      have y0:=HL.out.pl.cell ha
      have EN:=aA (wG KA.out HL.out.wa (HSA.out a has))
      have HAA:=aA ha
      clear ha gp1 gp2 gp3
      go_upto_region 17 with (go_at_call 11;(with_reducible refine(EN.out).mono ?_);rintro e w6 ⟨eq,ec,l,ra6,ka6,ma6,rfl,h1,h2,h3,h4,h5⟩;have E6:=aA h1;have P6:=aA h2;have M6:=aA h3;have C6:=aA h4;have L6:=aA (HL.out.endsA h5);clear h1 h2 h3 h4 h5)
      clear y0 EN HL
      have y0:=L6.out.pl.cell HAA.out
      have EM:=aA (wG KB.out L6.out.wb (HSB.out a has))
      go_upto_region 18 with (go_at_call 11;(with_reducible refine(EM.out).mono ?_);rintro e w7 ⟨fq,fc,l2,rb7,kb7,mb7,rfl,h1,h2,h3,h4,h5⟩;have F7:=aA h1;have P7:=aA h2;have M7:=aA h3;have C7:=aA h4;have L7:=aA (L6.out.endsB h5);have E7:Hid (Ls12 wr.heap.size w7 eq ec l):=aA (cT E6.out L6.out.wb h5.f (fun _ _ e=>e) ⟨by decide,by decide,by decide⟩);clear h1 h2 h3 h4 h5)
      clear y0 EM L6 E6
      have ca:=L7.out.wa.cell (i:=17) (v:=.bool ma6) rfl
      have cb:=L7.out.wb.cell (i:=17) (v:=.bool mb7) rfl
      cases ma6 with
      | true=>
       go_wp2
       go_ret
       exact⟨rfl,L7.out.bel⟩
      | false=>
       cases mb7 with
       | true=>
        go_wp2
        go_ret
        exact⟨rfl,L7.out.bel⟩
       | false=>
        have hll:l2=l:=(aC5 l l2 P6.out P7.out fun j=>by
         constructor
         ·intro q
          obtain⟨y,h1,h2⟩:=(SE.out a j).1 (M6.out j q)
          rw [<- h2]
          exact C7.out rfl y h1
         ·intro q
          obtain⟨y,h1,h2⟩:=(SE.out a j).2 (M7.out j q)
          rw [<- h2]
          exact C6.out rfl y h1).symm
        subst hll
        have hlm:l2.length<=9223372036854775807:=by
         rcases E7.out.2 with⟨e,hn⟩ | ⟨g,cap,cur,e,h1,h2,h3,h4,_⟩
         ·omega
         ·have:maxLen=9223372036854775807:=rfl
          omega
        clear P6 P7 M6 M7 C6 C7
        go_upto_region 23 with fail
        clear ca cb
        go_loopw [17] (fun kv wr=>∃ k:Nat,k<=l2.length/\kv=.int .i64 (k:Int)/\Below w7.heap.size w7 wr) (fun kv _=>l2.length-(intOf kv).toNat)
        case atStart=>exact⟨0,o9 _,rfl,Below.refl _ _⟩
        case round=>
         obtain⟨k,hk,rfl,hb⟩:=hrel
         have B7:=aA hb
         clear hb
         by_cases hkl:k<l2.length
         ·have k0:(k:Int)<(l2.length:Int):=by omega
          obtain⟨j,hj⟩:∃ j,l2[k]?=some j:=⟨_,g9 hkl⟩
          have E8:=E7.out.kept B7.out
          have F8:=F7.out.kept B7.out
          obtain⟨ge,rfl,-,-,-⟩:=E8.at (by omega)
          obtain⟨gf,rfl,-,-,-⟩:=F8.at (by omega)
          have y1:=E8.cell hj
          have y2:=F8.cell hj
          have jj:((j:Int) != (j:Int))=false:=by simp
          clear hj E8 F8
          go_upto_region 25 with fail
          go_region
          all_goals go_wp2
          all_goals go_roundw
          all_goals first | exact⟨k+1,by omega,by go_num,B7.out.drew⟩ |(simp [intOf];omega) |(simp only [intOf];omega)
         ·have k0:¬ (k:Int)<(l2.length:Int):=by omega
          go_wp2
          go_roundw
          case rel=>exact⟨i+1,_,_,_,_,_,_,by omega,by go_num,L7.out.kept B7.out⟩
          case measure=>simp [intOf];omega
     ·have i0:¬ (i:Int)<(pl.length:Int):=by omega
      go_wp2
      go_ret
      exact⟨rfl,HL.out.bel⟩
 ·have SB:=aA (lX c o (HTA.out.kept X3.out.1) (by rw [HR.out];exact hr0))
  rw [HR.out] at SB
  have hr1:(R != 0)=true:=by simpa using hr0
  clear hr0
  go_wp2_with (go_at_call 7;(with_reducible refine(SB.out).mono ?_);rintro e w4 ⟨rfl,h5⟩;have X4:=aA ((X3.out.kept h5).kept (vY _ (.cells #[.int .i64 0,.int .i64 0,.int .i64 0,.int .i64 0,.slice none 0 0,.slice none 0 0] 25)));have Z4:=aD w4 (.cells #[.int .i64 0,.int .i64 0,.int .i64 0,.int .i64 0,.slice none 0 0,.slice none 0 0] 25);have z0:=aB Z4 (i:=0) rfl;have z5:=aB Z4 (i:=5) rfl;clear h5)
  go_ret
  exact⟨by simp,X4.out.1⟩
end
section
open Go Go.ChangeShapes Go.WideShapes Go.ChangeAt Go.RowKit
theorem qI:Tryz.prog.cellsOf 25=6:=by kernel_rfl
theorem aG7:Tryz.prog.cellsOf 53=2:=by kernel_rfl
theorem yJ:Tryz.prog.cellsOf 22=1:=by kernel_rfl
theorem yK:Tryz.prog.cellsOf 23=1:=by kernel_rfl
theorem vX{w:World}{g o:Nat}{v:Value}(h:w.cell? ⟨g,o,none⟩=some v):g<w.heap.size:=by
 rcases Nat.lt_or_ge g w.heap.size with h' | h'
 ·exact h'
 ·have:w.heap[g]?=none:=Array.getElem?_eq_none h'
  simp [World.cell?,this] at h
theorem wD{a:Addr}{W:World}{v:Value}(h:W.cell? (a.add 0)=some v):∃ b off,a=⟨b,off,none⟩:=by
 obtain⟨b,off,bN7⟩:=a
 cases bN7 with
 | none=>exact⟨b,off,rfl⟩
 | some k=>
  exfalso
  unfold Addr.add World.cell? at h
  simp at h
  split at h <;> simp_all
theorem vV:Tryz.prog.cellsOf 27=2:=by kernel_rfl
theorem vW:Tryz.prog.cellsOf 4=1:=by kernel_rfl
theorem xS{H:Type}{enc:TypeId×Value->H}{W:World}{base:Nat}{v:Value}{d:DataW H}{p:List MemPlace}(hok:Value.okWide Tryz.prog W .any base 27 v)
  (h:DataW.Trod enc Tryz.prog W 0 (fun _=>true) true 27 v d p):∃ c f:Bool,v=.agg #[.bool c,.bool f]:=by
 obtain⟨cs,rfl,hsz⟩:=okWide_struct Tryz.underlying27 hok
 obtain⟨fuel,hf⟩:=h
 obtain⟨xs,k,hk,hxy,hcl,hxl,hfs⟩:=DataW.trod_struct Tryz.underlying27 hf
 rw [vV] at hcl
 obtain⟨l⟩:=cs
 simp [Value.cells] at hcl hfs
 match xs,hxl,l,hcl,hfs with
 | [y0,y1],_,[c0,c1],_,hf=>
  have F0:=hf 0 _ rfl
  have F1:=hf 1 _ rfl
  simp [vW] at F0 F1
  obtain⟨b0,e0,-⟩:=DataW.trod_bool Tryz.underlying4 F0
  obtain⟨b1,e1,-⟩:=DataW.trod_bool Tryz.underlying4 F1
  cases e0;cases e1
  exact⟨b0,b1,rfl⟩
end
section
open Go Go.ChangeShapes Go.WideShapes Go.ChangeAt Go.RowKit
theorem aG8{H:Type}(d:DataW H):1<=Rows.uptoBulk d:=by
 cases d with
 | lit l=>cases l <;> simp [Rows.uptoBulk]
 | nil=>simp [Rows.uptoBulk]
 | ptr d=>simp [Rows.uptoBulk]
 | slice elems spare=>simp [Rows.uptoBulk]
 | agg parts=>simp [Rows.uptoBulk]
 | iface t d=>simp [Rows.uptoBulk]
 | map entries=>simp [Rows.uptoBulk]
 | held h=>simp [Rows.uptoBulk]
theorem iV{H:Type}{d:DataW H}{l:List (DataW H)}(h:d∈l):Rows.uptoBulk d<=Rows.uptoBulkAll l:=by
 induction l with
 | nil=>cases h
 | cons x r ih=>
  simp only [Rows.uptoBulkAll]
  cases u0.1 h with
  | inl e=>subst e;omega
  | inr e=>have:=ih e;omega
theorem aG9{H:Type}(l:List (DataW H)):l.length<=Rows.uptoBulkAll l:=by
 induction l with
 | nil=>simp [Rows.uptoBulkAll]
 | cons x r ih=>have:=aG8 x;simp only [Rows.uptoBulkAll,o7];omega
theorem aT7{H:Type}{d:DataW H}{l:List (DataW H)}(hk:Rows.uptoSmall H l=true)(h:d∈l):Rows.uptoBulk d<=1048576:=o0 (iV h) (of_decide_eq_true hk)
theorem xP{H:Type}{enc:TypeId×Value->H}{W:World}{fuel:Nat}{v:Value}{x:DataW H×List MemPlace}(hf:DataW.trod enc Tryz.prog W 0 (fun _=>true) true fuel 22 [v]=some x)(hw:Rows.uptoBulk x.1<=1048576) :
  ∃ (rs:List (Int×Int)) (q:Option Addr) (c:Nat),v=.slice q rs.length c/\ArgR W v rs/\Fit rs/\rs.length+3<=1048579:=by
 rcases Deep.open_slice_pairs Tryz.underlying22 Tryz.underlying53 aG7 rfl rfl nX nX hf with⟨h1,h2⟩ | ⟨a,len,cap,m,n,V0,V1,D0,D1,P0,P1,h1,_,hlc,hcap,hm,h2,hx⟩
 ·cases h1
  exact⟨[],none,0,rfl,.inl ⟨none,0,rfl,rfl,fun _=>rfl⟩,eM,by simp⟩
 ·cases h1
  rw [if_pos rfl] at hm
  subst hm
  by_cases hc:m=0
  ·have hl:len=0:=by omega
   subst hc hl
   exact⟨[],some a,0,rfl,.inl ⟨some a,0,rfl,rfl,fun q=>(by cases q)⟩,eM,by simp⟩
  ·have hp:∀ i,i<m->∃ q:Int×Int,V0 i=.int .i64 q.1/\V1 i=.int .i64 q.2/\(Lit.int .i64 q.1).wf=true/\(Lit.int .i64 q.2).wf=true:=fun i hi=>by
    obtain⟨_,_,g0,g1⟩:=hx i hi
    obtain⟨x0,e0,_,w0⟩:=DataW.trod_int Tryz.underlying3 g0
    obtain⟨x1,e1,_,w1⟩:=DataW.trod_int Tryz.underlying3 g1
    exact⟨(x0,x1),by simpa using e0,by simpa using e1,w0,w1⟩
   obtain⟨q,hq⟩:=Deep.choose_lt hp
   have c0:=(hx 0 (by omega)).1
   obtain⟨b,off,rfl⟩:=wD (by simpa using c0)
   have hadd:∀ j,(⟨b,off,none⟩:Addr).add j=⟨b,off+j,none⟩:=fun j=>by unfold Addr.add;split <;> simp_all
   have hb:b<W.heap.size:=by rw [hadd] at c0;exact vX c0
   refine⟨(List.range len).map q,some ⟨b,off,none⟩,m,by simp,.inr ⟨b,off,m,by simp,hb,by simpa using hlc,hcap,fun i r hi'=>?_⟩,fun r hr=>?_,?_⟩
   ·have hil:i<len:=by have:=(m8.1 hi').1;simpa using this
    have hqi:q i=r:=by simpa [hil] using hi'
    obtain⟨k0,k1,_,_⟩:=hx i (by omega)
    rw [hadd,aBB] at k0
    rw [hadd,aBB,<- aAU] at k1
    obtain⟨r0,r1,_,_⟩:=hq i (by omega)
    rw [hqi] at r0 r1
    exact⟨by rw [k0,r0],by rw [k1,r1]⟩
   ·obtain⟨i,hi,rfl⟩:=s4.1 hr
    have hil:i<len:=aBW.1 hi
    obtain⟨_,_,w0,w1⟩:=hq i (by omega)
    exact⟨tO w0,tO w1⟩
   ·obtain⟨es,sp,e1,e2⟩:∃ es sp,x.1=.slice es sp/\es.length=len:=⟨_,_,congrArg Prod.fst h2,by simp⟩
    rw [e1] at hw
    simp only [Rows.uptoBulk] at hw
    have:=aG9 es
    simp
    omega
theorem xR{H:Type}{enc:TypeId×Value->H}{W:World}:∀ (fuel:Nat) (cs:List Value) (x:DataW H×List MemPlace),DataW.trod enc Tryz.prog W 0 (fun _=>true) true fuel 25 cs=some x->Rows.uptoBulk x.1<=1048576 ->
  ∃ t:Tr,(TB W t/\bF (fun u=>u.f.rs.length<=1048576) t)/\cs=[.int .i64 t.f.k,.int .i64 t.f.n,.int .i64 t.f.mn,.int .i64 t.f.mx,.slice t.f.rq t.f.rs.length t.f.rc,.slice t.f.kq t.f.kl t.f.kc]:=by
 intro fuel
 induction fuel using Nat.strongRecOn with
 | ind fuel ih=>
  intro cs x hf hw
  obtain⟨xs,k,hk,hxy,hcl,hxl,hfs⟩:=DataW.trod_struct Tryz.underlying25 hf
  have hD:x.1=.agg (xs.map (·.1)):=(congrArg Prod.fst hxy)
  rw [hD] at hw
  simp only [Rows.uptoBulk] at hw
  rw [qI] at hcl
  clear hD hxy hf
  match xs,hxl,cs,hcl,hfs,hw with
  | [y0,y1,y2,y3,y4,y5],_,[v0,v1,v2,v3,v4,v5],_,hf,hwi=>
   have F0:=hf 0 _ rfl
   have F1:=hf 1 _ rfl
   have F2:=hf 2 _ rfl
   have F3:=hf 3 _ rfl
   have F4:=hf 4 _ rfl
   have F5:=hf 5 _ rfl
   simp [nX,yJ,yK] at F0 F1 F2 F3 F4 F5
   obtain⟨x0,e0,_,w0⟩:=DataW.trod_int Tryz.underlying3 F0
   obtain⟨x1,e1,_,w1⟩:=DataW.trod_int Tryz.underlying3 F1
   obtain⟨x2,e2,_,w2⟩:=DataW.trod_int Tryz.underlying3 F2
   obtain⟨x3,e3,_,w3⟩:=DataW.trod_int Tryz.underlying3 F3
   obtain⟨rs,q,c,rfl,hr,hfit,hlen⟩:=xP F4 (by have:=iV (d:=y4.1) (l:=[y0,y1,y2,y3,y4,y5].map (·.1)) (by simp);omega)
   cases e0;cases e1;cases e2;cases e3
   have hwk:Rows.uptoBulk y5.1<=1048576:=by have:=iV (d:=y5.1) (l:=[y0,y1,y2,y3,y4,y5].map (·.1)) (by simp);omega
   rcases DataW.trod_slice Tryz.underlying23 F5 with⟨h1,h2⟩ | ⟨a,len,cap,elems,rest,n,hn,h1,h2,_,hlc,hcap,hel,hx,-,-⟩
   ·cases h1
    exact⟨.mk ⟨x0,x1,x2,x3,rs,q,c,none,0,0⟩ [],⟨(aI _).2 ⟨⟨hr,.inl ⟨none,0,rfl,rfl,fun _=>rfl⟩,hfit,o0 hlen (by decide)⟩,(aT _).2 fun u hu=>by cases hu⟩,(aI _).2 ⟨(show rs.length<=1048576 by omega),(aT _).2 fun u hu=>by cases hu⟩⟩,rfl⟩
   ·cases h1
    by_cases hl:len=0
    ·subst hl
     exact⟨.mk ⟨x0,x1,x2,x3,rs,q,c,some a,0,cap⟩ [],⟨(aI _).2 ⟨⟨hr,.inl ⟨some a,cap,rfl,rfl,fun z=>by cases z⟩,hfit,o0 hlen (by decide)⟩,(aT _).2 fun u hu=>by cases hu⟩,(aI _).2 ⟨(show rs.length<=1048576 by omega),(aT _).2 fun u hu=>by cases hu⟩⟩,rfl⟩
    ·have each:∀ i,i<len->∃ t:Tr,(TB W t/\bF (fun u=>u.f.rs.length<=1048576) t)/\∀ j v,[Value.int .i64 t.f.k,.int .i64 t.f.n,.int .i64 t.f.mn,.int .i64 t.f.mx,.slice t.f.rq t.f.rs.length t.f.rc,.slice t.f.kq t.f.kl t.f.kc][j]?=some v->W.cell? (a.add (i*6+j))=some v:=by
      intro i hi
      have hxi:=hx i hi
      rw [g9 (by omega)] at hxi
      obtain⟨cs',g1,g2⟩:=Option.bind_eq_some_iff.1 hxi
      rw [qI] at g1
      obtain⟨_,hlc',hcell⟩:=World.cells?_some g1
      obtain⟨t,ht,hcs⟩:=ih n (by omega) cs' _ g2 (by
       rw [show y5.1=.slice (elems.map (·.1)) (rest.map (·.1)) from congrArg Prod.fst h2] at hwk
       simp only [Rows.uptoBulk] at hwk
       refine o0 (iV (l:=elems.map (·.1)) (s4.2 ⟨_,List.getElem_mem _,rfl⟩)) (by omega))
      refine⟨t,ht,fun j v hj=>?_⟩
      have hj6:j<6:=by have:=(m8.1 hj).1;simpa using this
      have:=hcell j (by omega)
      rw [Deep.add_add] at this
      rw [this,hcs]
      exact hj
     have:Inhabited Tr:=⟨.mk ⟨0,0,0,0,[],none,0,none,0,0⟩ []⟩
     obtain⟨tt,htt⟩:=Deep.choose_lt each
     have c0:=(htt 0 (by omega)).2 0 _ rfl
     obtain⟨b,off,rfl⟩:=wD (by simpa using c0)
     have hadd:∀ j,(⟨b,off,none⟩:Addr).add j=⟨b,off+j,none⟩:=fun j=>by unfold Addr.add;split <;> simp_all
     have hb:b<W.heap.size:=by rw [hadd] at c0;exact vX c0
     refine⟨.mk ⟨x0,x1,x2,x3,rs,q,c,some ⟨b,off,none⟩,len,cap⟩ ((List.range len).map tt),⟨(aI _).2 ⟨⟨hr,.inr ⟨b,off,cap,by simp [Tr.f,Tr.ks],hb,by simpa [Tr.ks] using hlc,hcap,fun i t hi=>?_⟩,hfit,o0 hlen (by decide)⟩,(aT _).2 fun u hu=>?_⟩,(aI _).2 ⟨(show rs.length<=1048576 by omega),(aT _).2 fun u hu=>?_⟩⟩,rfl⟩
     ·have hi':((List.range len).map tt)[i]?=some t:=hi
      have hil:i<len:=by have:=(m8.1 hi').1;simpa using this
      have hqi:tt i=t:=by simpa [hil] using hi'
      have hh:=(htt i hil).2
      rw [hqi] at hh
      simp only [hadd,<- aAU] at hh
      exact⟨hh 0 _ rfl,hh 1 _ rfl,hh 2 _ rfl,hh 3 _ rfl,hh 4 _ rfl,hh 5 _ rfl⟩
     ·have hu':u∈(List.range len).map tt:=hu
      obtain⟨i,hi,rfl⟩:=s4.1 hu'
      exact(htt i (aBW.1 hi)).1.1
     ·have hu':u∈(List.range len).map tt:=hu
      obtain⟨i,hi,rfl⟩:=s4.1 hu'
      exact(htt i (aBW.1 hi)).1.2
theorem xQ{H:Type}{enc:TypeId×Value->H}{W:World}{base:Nat}{v:Value}{d:DataW H}{p:List MemPlace}(hok:Value.okWide Tryz.prog W .any base 25 v)
  (h:DataW.Trod enc Tryz.prog W 0 (fun _=>true) true 25 v d p) (hw:Rows.uptoBulk d<=1048576):∃ t:Tr,TB W t/\(∀ x∈pp [] t,x.2.f.rs.length<=1048576)/\v=.agg #[.int .i64 t.f.k,.int .i64 t.f.n,.int .i64 t.f.mn,.int .i64 t.f.mx,.slice t.f.rq t.f.rs.length t.f.rc,.slice t.f.kq t.f.kl t.f.kc]:=by
 obtain⟨cs,rfl,hsz⟩:=okWide_struct Tryz.underlying25 hok
 obtain⟨fuel,hf⟩:=h
 obtain⟨t,⟨ht,hs⟩,hcs⟩:=xR fuel _ _ hf hw
 refine⟨t,ht,fun x hx=>((aI _).1 (fD (P:=fun u=>u.f.rs.length<=1048576) t [] hs x hx)).1,?_⟩
 obtain⟨l⟩:=cs
 simp [Value.cells] at hcs
 rw [hcs]
end
end Go.Proofs.YtlamifbjklpdbaaGreat
