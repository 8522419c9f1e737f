/-
  Parts of the proof.
-/
import Derived.Test.YtliflleaeimngaaLongestProofNA0
import Derived.Test.YtliflleaeimngaaLongestProofNB4
import Derived.Test.YtliflleaeimngaaLongestProofNB3
import Derived.Deep.LoopGhost
import Derived.Deep.RegionLaw
import Derived.BigQuiet
import Derived.Test.YtliflleaeimngaaLongestProofNB2
import Derived.Deep.DeepCutAuto
set_option linter.unusedSimpArgs false
set_option maxRecDepth 100000
set_option maxHeartbeats 8000000
namespace Go.Proofs.Ytliflleaeimngaa
open Go Go.RowKit
section
set_option linter.unusedSimpArgs false
set_option linter.unusedVariables false
attribute [local go_sem] Oper.semAt_some bI
theorem qG{p:Pg}(hr:(rtE p).1=0)(hf:cB p=true){k:Nat}{i:Ins}(hi:p.L[k]?=some i):i.op=1\/i.op=2\/i.op=3\/i.op=4\/i.op=5\/i.op=6\/i.op=7\/i.op=11:=by
 have h:=(kT hr).2.2 k i hi
 unfold bL at h
 simp only [o5] at h
 have h0:=h.1.1.1.1.1.1.1
 unfold shW at h0
 have hn:bU i=false:=by
  unfold cB at hf
  have h2:p.L.any bU=false:=by simpa using hf
  exact Bool.eq_false_iff.2 (fun q=>by have:=List.any_eq_false.1 h2 i (j8 hi);exact this q)
 unfold bU at hn
 simp only [Bool.or_eq_false_iff,f8] at hn
 obtain⟨⟨n8,n9⟩,n10⟩:=hn
 refine Classical.byContradiction fun q=>?_
 have e:i.op≠1/\i.op≠2/\i.op≠3/\i.op≠4/\i.op≠5/\i.op≠6/\i.op≠7/\i.op≠11:=by omega
 simp [e,n8,n9,n10] at h0
theorem cC{k:Nat}{L:List Int}(hk:k<L.length):L[k]?=some (rwF L k):=by
 show L[k]?=some (L.getD k (-1))
 rw [List.getD_eq_getElem?_getD,j4 hk]
 rfl
theorem aY{V:World}{g k:Nat}{L:List Int}(h:RwB V g L)(hk:k<L.length):V.cell? ⟨g,k,none⟩=some (.int .i64 (rwF L k)):=h.cell (cC hk)
theorem cI{P:List Ins}{s:List UInt8}{pl k:Nat}{v:Int}(hp:pl<=s.length)(h:v=-1\/∃ e:Nat,v=e/\Tow P s e pl k):v<=s.length:=by
 rcases h with e | ⟨e,q,h⟩
 ·omega
 ·have:=h.le hp
  omega
theorem RwH.base{w w1 V:World}{P:List Ins}{s:List UInt8}{ab m n top fr:Nat}(h:RwH w1 P s ab m n V top fr)(hb:wBl w w1):RwH w P s ab m n V top fr:=by
 obtain⟨cs,h1,h2,h3⟩:=h.all
 have hl:=h.lo
 have hs:=hb.size
 refine⟨hb.trans (h.bel.mono hs),⟨by omega,hl.2⟩,cs,h1,h2,fun pl a b=>?_⟩
 obtain⟨g,L,q1,q2,q3,q4,q5,q6⟩:=h3 pl a b
 exact⟨g,L,q1,q2,q3,by omega,q5,q6⟩
theorem RwH.up{w1 V:World}{P:List Ins}{s:List UInt8}{ab m n top pl:Nat}(h:RwH w1 P s ab m n V top (pl+1)):∃ g L,(pl<n->V.cell? ⟨ab,pl+1,none⟩=some (.slice (some ⟨g,0,none⟩) m m)/\RwB V g L/\L.length=m/\g<top/\RowM P s (pl+1) (rwF L)):=by
 by_cases hp:pl<n
 ·obtain⟨cs,h1,h2,h3⟩:=h.all
  obtain⟨g,L,q1,q2,q3,q4,q5,q6⟩:=h3 (pl+1) lz9 (by omega)
  exact⟨g,L,fun _=>⟨aA h1 q1,q2,q3,q5,q6⟩⟩
 ·exact⟨0,[],fun q=>absurd q hp⟩
theorem qK{m k:Nat}(h:k<m):(List.replicate k (-1:Int)++List.replicate (m-k) 0).set k (-1)=List.replicate (k+1) (-1)++List.replicate (m-(k+1)) 0:=by
 rw [List.set_append_right _ _ (by simp)]
 rw [List.length_replicate,Nat.sub_self,show m-k=(m-(k+1))+1 by omega,List.replicate_succ,i9,List.replicate_succ',l7]
 rfl
theorem sW{w:World}{p:Pg}(h:PgI w p)(hr:(rtE p).1=0)(hf:cB p=true)(s:ByteArray)(hs:s.size<=100000000):Calls Try.prog 21 #[.agg #[.slice p.q p.L.length p.c,.int .i64 p.g,.int .i64 p.k,.bool p.f],.string s] w fun e w'=>∃ ab top,e=.returned (.slice (some ⟨ab,0,none⟩) (s.size+1) (s.size+1))/\RwH w p.L (sL s) ab p.L.length s.size w' top 0:=by
 have B1:Hid (wBl w (w.alloc (.cells #[.slice p.q p.L.length p.c,.int .i64 p.g,.int .i64 p.k,.bool p.f] 24))):=bz9
 have X1:Hid ((w.alloc (.cells #[.slice p.q p.L.length p.c,.int .i64 p.g,.int .i64 p.k,.bool p.f] 24)).heap[w.heap.size]?=some (.cells #[.slice p.q p.L.length p.c,.int .i64 p.g,.int .i64 p.k,.bool p.f] 24 (0,0))):=aE w _
 have H:=aD (h.kept B1.o)
 have GG:=aD (fG hr)
 have OPS:=aD (fun (k:Nat) (i:Ins) (hi:p.L[k]?=some i)=>qG hr hf hi)
 have hlen:=GG.o.len
 have hpos:=GG.o.pos
 have hsl:(sL s).length=s.size:=cJ s
 obtain⟨pq,pL,pc,pg,pk,pf⟩:=p
 dsimp only at *
 clear h hr hf
 go_enter Try.func21,Try.ntmps21
 go_upto_region 1 with fail
 generalize (w.alloc (.cells #[.slice pq pL.length pc,.int .i64 pg,.int .i64 pk,.bool pf] 24))=w1 at B1 X1 H ⊢
 have XK:=aD (fun (V:World) (hV:wBl w1 V)=>(hV.block _ (aC X1.o)).trans X1.o)
 have hwn:IntKind.wrap .i64 ((s.size:Int)+1)=(s.size:Int)+1:=wrap_small _ (by omega) (by omega)
 have MR:=fun W=>kI (s.size+1) (by omega) W
 rw [show (((s.size+1:Nat)):Int)=(s.size:Int)+1 by omega] at MR
 go_upto_region 3 with fail
 have R0:Hid (RwH w1 pL (sL s) w1.heap.size pL.length s.size (w1.alloc (.cells (madeCells #[.slice none 0 0] (s.size+1)) 62)) (w1.heap.size+1) (s.size+1)):=aD ⟨bz9,⟨k9 _,by omega,by simp⟩,_,aE w1 _,by simp [madeCells],fun pl a b=>by omega⟩
 generalize (w1.alloc (.cells (madeCells #[.slice none 0 0] (s.size+1)) 62))=w2 at R0 ⊢
 obtain⟨ab,hab⟩:∃ ab,w1.heap.size=ab:=⟨_,rfl⟩
 have HAB:=aD hab
 rw [hab] at R0 ⊢
 clear MR hab
 go_loopw [6] (fun i wr=>∃ (c top:Nat),i=.int .i64 ((c:Int)-1)/\c<=s.size+1/\RwH w1 pL (sL s) ab pL.length s.size wr top c) (fun i _=>(intOf i+1).toNat)
 case atStart=>exact⟨s.size+1,_,by go_num,by omega,R0.o⟩
 case round=>
  obtain⟨c,top,rfl,hc,hR⟩:=hrel
  have R1:=aD hR
  clear hR R0
  by_cases hz:c=0
  ·subst hz
   have R2:=aD (R1.o.base B1.o)
   go_wp2
   go_ret
   exact⟨ab,top,rfl,R2.o⟩
  ·obtain⟨pl,rfl⟩:∃ pl,c=pl+1:=⟨c-1,by omega⟩
   have ec:(((pl+1:Nat):Int)-1)=(pl:Int):=by omega
   rw [ec]
   have i0:(0:Int)<=(pl:Int):=by omega
   have hpl:pl<=s.size:=by omega
   have x:=XK.o _ R1.o.bel
   have p0:=aA x (i:=0) rfl
   have MR:=fun W=>oV pL.length (by omega) W
   have lo:=R1.o.lo
   go_upto_region 7 with fail
   have RB0:Hid (RwB (wr.alloc (.cells (bO (List.replicate pL.length 0)).toArray 3)) wr.heap.size (List.replicate 0 (-1)++List.replicate (pL.length-0) 0)):=aE wr _
   have BT0:Hid (Below top wr (wr.alloc (.cells (bO (List.replicate pL.length 0)).toArray 3))):=aD ((Below.refl top wr).alloc lo.2.2 _)
   obtain⟨rb,hrb⟩:∃ rb,wr.heap.size=rb:=⟨_,rfl⟩
   have htr:top<=rb:=by rw [<- hrb];exact lo.2.2
   rw [hrb] at RB0 ⊢
   generalize (wr.alloc (.cells (bO (List.replicate pL.length 0)).toArray 3))=w3 at RB0 BT0 ⊢
   clear MR p0 x hrb
   have UP:=R1.o.up
   obtain⟨gu,Lu,hup⟩:=UP
   have UPM:=aD hup
   clear hup
   go_loopw [8] (fun k wq=>∃ kk:Nat,kk<=pL.length/\k=.int .i64 (kk:Int)/\RwB wq rb (List.replicate kk (-1)++List.replicate (pL.length-kk) 0)/\Below top wr wq) (fun k _=>pL.length-(intOf k).toNat)
   case atStart=>exact⟨0,by omega,rfl,RB0.o,BT0.o⟩
   case round=>
    rename World=>wq
    obtain⟨kk,hkk,rfl,hB,hT⟩:=hrel
    have B2:=aD hB
    have T2:=aD hT
    clear hB hT
    by_cases hk:kk<pL.length
    ·have k0:(0:Int)<=(kk:Int):=by omega
     have k1:(kk:Int)<(pL.length:Int):=by omega
     have lb:=aC B2.o
     have fz:=aH B2.o kk
     have cc:wq.cell? ⟨rb,kk,none⟩=some (.int .i64 0):=B2.o.cell (by rw [o3 (by simp),List.length_replicate,Nat.sub_self,List.getElem?_replicate,if_pos (by omega)])
     have B3:=aD (B2.o.set kk (-1))
     rw [qK hk] at B3
     go_wp2
     go_roundw
     case rel=>exact⟨kk+1,by omega,by go_num,B3.o,T2.o.setCell (by exact htr) _⟩
     case measure=>simp only [intOf];omega
    ·obtain rfl:kk=pL.length:=by omega
     have k1:¬ ((pL.length:Nat):Int)<(pL.length:Int):=by omega
     have B3:Hid (RwB wq rb (List.replicate pL.length (-1))):=aD (by have:=B2.o;rw [Nat.sub_self,List.replicate_zero,List.append_nil] at this;exact this)
     clear B2
     go_upto_region 11 with fail
     go_loopg [9] (2*mzR (s.size:Int) (List.replicate pL.length (-1))+1) (fun k gr wz=>∃ (L:List Int) (b:Bool),gr=.bool b/\RwB wz rb L/\L.length=pL.length/\iI pL (sL s) pl (rwF L)/\Below top wr wz/\2*mzR (s.size:Int) L+(if b then 1 else 0)=k/\(b=false->∀ k i,pL[k]?=some i->nvM (sL s) pl (rwF L) (rwF Lu) k i<=rwF L k))
     case atStart=>exact⟨_,true,rfl,B3.o,by simp,lK,T2.o,rfl,(fun q=>nomatch q)⟩
     case round=>
      rename World=>wz
      obtain⟨L,b,rfl,hB,hL,hS,hT,hk4,hfx⟩:=hrel
      have B4:=aD hB
      have S4:=aD hS
      have T4:=aD hT
      have FX:=aD hfx
      clear hB hS hT hfx
      cases b with
      | false=>
       have RM:Hid (RowM pL (sL s) pl (rwF L)):=aD (tD GG.o S4.o (fun q=>(UPM.o (by omega)).2.2.2.2) (FX.o rfl))
       have R4:=aD (R1.o.then T4.o)
       have R5:=aD (R4.o.put hpl B4.o hL htr RM.o)
       obtain⟨cs,h1,h2,-⟩:=R4.o.all
       obtain⟨u0,hu0⟩:∃ u,cs[pl]?=some u:=⟨_,Array.getElem?_eq_getElem (by omega)⟩
       have ca:=aA h1 hu0
       have fa:=aH h1 pl
       have la:=aC h1
       have i1:(pl:Int)<(s.size:Int)+1:=by omega
       clear h1 h2 hu0
       go_wp2
       go_roundw
       case rel=>exact⟨pl,rb+1,by go_num,by omega,R5.o⟩
       case measure=>simp only [intOf];omega
      | true=>
       rw [if_pos rfl] at hk4
       have hwm:IntKind.wrap .i64 ((pL.length:Int)-1)=(pL.length:Int)-1:=by rw [IntKind.wrap_i64];omega
       go_upto_region 14 with fail
       go_loopw [9,10] (fun gr k wy=>∃ (L':List Int) (b:Bool) (c:Nat),gr=.bool b/\k=.int .i64 ((c:Int)-1)/\c<=pL.length/\RwB wy rb L'/\L'.length=pL.length/\iI pL (sL s) pl (rwF L')/\Below top wr wy/\mzR (s.size:Int) L'<=mzR (s.size:Int) L/\(b=true->mzR (s.size:Int) L'<mzR (s.size:Int) L)/\(b=false->L'=L/\∀ k i,c<=k->pL[k]?=some i->nvM (sL s) pl (rwF L) (rwF Lu) k i<=rwF L k)) (fun _ k _=>(intOf k+1).toNat)
       case atStart=>exact⟨L,false,pL.length,rfl,rfl,k9 _,B4.o,hL,S4.o,T4.o,k9 _,(fun q=>nomatch q),fun _=>⟨rfl,fun k i h1 h2=>by have:=(f7.1 h2).1;omega⟩⟩
       case round=>
        rename World=>wy
        obtain⟨L',b,c,rfl,rfl,hc2,hB,hL',hS,hT,hmz,hbt,hbf⟩:=hrel
        have B5:=aD hB
        have S5:=aD hS
        have T5:=aD hT
        have BX:=aD hbt
        have BF:=aD hbf
        clear hB hS hT hbt hbf
        by_cases hcz:c=0
        ·subst hcz
         rw [show (((0:Nat):Int)-1)=-1 from rfl]
         go_wp2
         go_roundg (2*mzR (s.size:Int) L'+(if b then 1 else 0))
         case measure=>
          cases b
          ·obtain⟨e1,-⟩:=BF.o rfl
           subst e1
           simp
           omega
          ·have:=BX.o rfl
           simp
           omega
         case rel=>exact⟨L',b,rfl,B5.o,hL',S5.o,T5.o,rfl,fun q=>by
          obtain⟨e1,h2⟩:=BF.o q
          subst e1
          exact fun k i hi=>h2 k i (o7 _) hi⟩
        ·obtain⟨cc,rfl⟩:∃ cc,c=cc+1:=⟨c-1,by omega⟩
         rw [show (((cc+1:Nat):Int)-1)=(cc:Int) by omega]
         have BW5:=R1.o.bel.trans (T5.o.mono (by omega))
         have p0:=aA (XK.o _ BW5) (i:=0) rfl
         obtain⟨i,hi2⟩:∃ i,pL[cc]?=some i:=⟨_,j4 (by omega)⟩
         have hop:=OPS.o cc i hi2
         have HI:=aD hi2
         obtain⟨g1,o1,hq1,hl1,c0,c1,c2,c3,c4,c5,c6,c7,c8,c9⟩:=(H.o.kept BW5).li.ten hi2
         have hq2:pq=some ⟨g1,o1,none⟩:=hq1
         clear hq1
         rw [hq2] at p0
         clear hq2
         have k0:(0:Int)<=(cc:Int):=by omega
         have k1:(cc:Int)<(pL.length:Int):=by omega
         have k00:(0:Int)<=(cc:Int):=k0
         clear hi2
         go_upto_region 18 with fail
         have BA:wBl wy (wy.alloc (.cells #[.int .i64 i.op,.int .i64 i.x,.int .i64 i.y,.int .i64 i.n,.int .i64 i.mn,.int .i64 i.mx,.int .u64 (aB i.s 0),.int .u64 (aB i.s 1),.int .u64 (aB i.s 2),.int .u64 (aB i.s 3)] 47)):=bz9
         have I6:Hid ((wy.alloc (.cells #[.int .i64 i.op,.int .i64 i.x,.int .i64 i.y,.int .i64 i.n,.int .i64 i.mn,.int .i64 i.mx,.int .u64 (aB i.s 0),.int .u64 (aB i.s 1),.int .u64 (aB i.s 2),.int .u64 (aB i.s 3)] 47)).heap[wy.heap.size]?=some (.cells #[.int .i64 i.op,.int .i64 i.x,.int .i64 i.y,.int .i64 i.n,.int .i64 i.mn,.int .i64 i.mx,.int .u64 (aB i.s 0),.int .u64 (aB i.s 1),.int .u64 (aB i.s 2),.int .u64 (aB i.s 3)] 47 (0,0))):=aE wy _
         have B6:Hid (RwB (wy.alloc (.cells #[.int .i64 i.op,.int .i64 i.x,.int .i64 i.y,.int .i64 i.n,.int .i64 i.mn,.int .i64 i.mx,.int .u64 (aB i.s 0),.int .u64 (aB i.s 1),.int .u64 (aB i.s 2),.int .u64 (aB i.s 3)] 47)) rb L'):=aD ((BA.block _ (aC B5.o)).trans B5.o)
         have T6:=aD (T5.o.trans (BA.mono (by have:=aC B5.o;omega)))
         obtain⟨ib,hib⟩:∃ ib,wy.heap.size=ib:=⟨_,rfl⟩
         rw [hib] at I6 ⊢
         generalize (wy.alloc (.cells #[.int .i64 i.op,.int .i64 i.x,.int .i64 i.y,.int .i64 i.n,.int .i64 i.mn,.int .i64 i.mx,.int .u64 (aB i.s 0),.int .u64 (aB i.s 1),.int .u64 (aB i.s 2),.int .u64 (aB i.s 3)] 47))=wv at I6 B6 T6 ⊢
         clear BA c0 c1 c2 c3 c4 c5 c6 c7 c8 c9 p0 hl1 hib BW5
         have R6:=aD (R1.o.then T6.o)
         have lib:=aC I6.o
         have lrb:=aC B6.o
         have d0:wv.cell? ⟨ib,0,none⟩=some (.int .i64 i.op):=aA I6.o (i:=0) rfl
         have d1:wv.cell? ⟨ib,1,none⟩=some (.int .i64 i.x):=aA I6.o (i:=1) rfl
         have d2:wv.cell? ⟨ib,2,none⟩=some (.int .i64 i.y):=aA I6.o (i:=2) rfl
         have cr:=aY B6.o (k:=cc) (by omega)
         obtain⟨rc,hrc⟩:∃ v,rwF L' cc=v:=⟨_,rfl⟩
         rw [hrc] at cr
         have HRC:=aD hrc
         clear hrc
         have fz:=aH B6.o cc
         have EPS:=aD (GG.o.eps cc i HI.o)
         have HU:Hid (pl<(sL s).length->RowM pL (sL s) (pl+1) (rwF Lu)):=aD (fun q=>(UPM.o (by omega)).2.2.2.2)
         have NS:=aD (tC GG.o S5.o HU.o HI.o)
         have hcc1:((cc:Int)+1).toNat=cc+1:=by omega
         have hwc:IntKind.wrap .i64 ((cc:Int)+1)=(cc:Int)+1:=wrap_small _ (by omega) (by omega)
         have hwp:IntKind.wrap .i64 ((pl:Int)+1)=(pl:Int)+1:=wrap_small _ (by omega) (by omega)
         have e2b:((cc:Int)+1).toNat=cc+1:=hcc1
         have e3b:((pl:Int)+1).toNat=pl+1:=by omega
         rcases hop with ho | ho | ho | ho | ho | ho | ho | ho
         ·rw [ho] at d0
          have hc1:=GG.o.nx cc i HI.o ho
          by_cases hpn:pl<s.size
          ·have i5:(pl:Int)<(s.size:Int):=by omega
           obtain⟨cby,hcb⟩:∃ c,(sL s)[pl]?=some c:=⟨_,j4 (by rw [hsl];exact hpn)⟩
           have es:s[pl]'hpn=cby:=(f7.1 hcb).2
           have hc8:cby.toNat<256:=cby.toNat_lt
           have hwb:wrap64 (cby.toNat:Int)=(cby.toNat:Int):=by unfold wrap64;omega
           have d6:wv.cell? ⟨ib,6,none⟩=some (.int .u64 (aB i.s 0)):=aA I6.o (i:=6) rfl
           have d7:wv.cell? ⟨ib,7,none⟩=some (.int .u64 (aB i.s 1)):=aA I6.o (i:=7) rfl
           have d8:wv.cell? ⟨ib,8,none⟩=some (.int .u64 (aB i.s 2)):=aA I6.o (i:=8) rfl
           have d9:wv.cell? ⟨ib,9,none⟩=some (.int .u64 (aB i.s 3)):=aA I6.o (i:=9) rfl
           have IN:=aD (fun W=>tX i.s cby.toNat hc8 W)
           obtain⟨bb,hbb⟩:∃ v,i.s.getLsbD cby.toNat=v:=⟨_,rfl⟩
           rw [hbb] at IN
           have hsb:aO i.s (cby.toNat:Int)=bb:=by rw [pK _ _ hc8];exact hbb
           clear hbb
           go_upto_region 26 with fail
           go_cut [88] (fun v wx=>v=.bool bb/\wBl wv wx)
           case first=>
            refine wx9 ?_
            repeat (go_big_quiet_step (first | exact rfl |(go_at_call 33;(with_reducible exact bJ (IN.o _)))))
            refine wpQuiet_nil ?_
            intro w5 hw5
            have BW:Hid (wBl wv w5):=aD (bS hw5)
            clear hw5
            go_wp2
            go_meet
            exact⟨rfl,BW.o⟩
           case rest=>
            obtain⟨rfl,hBW⟩:=hcut
            have B8:Hid (RwB wc rb L'):=aD ((hBW.block _ lrb).trans B6.o)
            have T8:=aD (T6.o.trans (hBW.mono (by omega)))
            have R8:=aD (R1.o.then T8.o)
            have lrb:=aC B8.o
            clear cr fz
            have cr:=aY B8.o (k:=cc) (by omega)
            rw [HRC.o] at cr
            have fz:=aH B8.o cc
            obtain⟨hu1,hu2,hu3,hu4,hu5⟩:=UPM.o hpn
            clear hBW
            cases bb with
            | false=>
             have HE:Hid (nvM (sL s) pl (rwF L') (rwF Lu) cc i=-1):=aD (by unfold nvM;simp [ho,hcb,hsb])
             go_upto_region 37 with fail
             rw [HE.o] at NS
             by_cases hgt:rc < -1
             ·have B7:=aD (B8.o.set cc (-1))
              have S7:=aD (bV (k:=cc) S5.o NS.o)
              have M7:=bX (m:=(s.size:Int)) (x:=rc) (by rw [<- HRC.o];exact cC (by omega)) hgt (by rw [<- hsl];exact cI (by omega) NS.o)
              go_wp2
              go_roundw
              case rel=>exact⟨_,true,cc,rfl,by go_num,by omega,B7.o,by rw [k5];exact hL',S7.o,T8.o.setCell (by exact htr) _,by omega,fun _=>by omega,(fun q=>nomatch q)⟩
              case measure=>simp only [intOf];omega
             ·go_wp2
              go_roundw
              case rel=>exact⟨L',b,cc,rfl,by go_num,by omega,B8.o,hL',S5.o,T8.o,hmz,BX.o,fun q=>by
               obtain⟨e1,h2⟩:=BF.o q
               subst e1
               refine⟨rfl,fun k j hk hj=>?_⟩
               by_cases e2:k=cc
               ·subst e2
                rw [HI.o] at hj
                cases hj
                rw [HE.o,HRC.o]
                omega
               ·exact h2 k j (by omega) hj⟩
              case measure=>simp only [intOf];omega
            | true=>
             have hu6:RwB wc gu Lu:=(T8.o.block _ hu4).trans hu2
             have hu7:=(T8.o.cell (p:=⟨ab,pl+1,none⟩) (by have:=lo.2.1;exact this)).trans hu1
             have cu:=aY hu6 (k:=cc+1) (by omega)
             have lgu:=aC hu6
             have lab:ab<wc.heap.size:=by have:=R8.o.lo;omega
             obtain⟨ru,hru⟩:∃ v,rwF Lu (cc+1)=v:=⟨_,rfl⟩
             rw [hru] at cu
             have k2:(cc:Int)+1<(pL.length:Int):=by omega
             have k3:(0:Int)<=(cc:Int)+1:=by omega
             have i6:(pl:Int)+1<(s.size:Int)+1:=by omega
             have i7:(0:Int)<=(pl:Int)+1:=by omega
             have HE:Hid (nvM (sL s) pl (rwF L') (rwF Lu) cc i=ru):=aD (by rw [<- hru];unfold nvM;simp [ho,hcb,hsb])
             clear hu1 hu2 hu5 hru
             go_upto_region 37 with fail
             rw [HE.o] at NS
             by_cases hgt:rc<ru
             ·have B7:=aD (B8.o.set cc (ru))
              have S7:=aD (bV (k:=cc) S5.o NS.o)
              have M7:=bX (m:=(s.size:Int)) (x:=rc) (by rw [<- HRC.o];exact cC (by omega)) hgt (by rw [<- hsl];exact cI (by omega) NS.o)
              go_wp2
              go_roundw
              case rel=>exact⟨_,true,cc,rfl,by go_num,by omega,B7.o,by rw [k5];exact hL',S7.o,T8.o.setCell (by exact htr) _,by omega,fun _=>by omega,(fun q=>nomatch q)⟩
              case measure=>simp only [intOf];omega
             ·go_wp2
              go_roundw
              case rel=>exact⟨L',b,cc,rfl,by go_num,by omega,B8.o,hL',S5.o,T8.o,hmz,BX.o,fun q=>by
               obtain⟨e1,h2⟩:=BF.o q
               subst e1
               refine⟨rfl,fun k j hk hj=>?_⟩
               by_cases e2:k=cc
               ·subst e2
                rw [HI.o] at hj
                cases hj
                rw [HE.o,HRC.o]
                omega
               ·exact h2 k j (by omega) hj⟩
              case measure=>simp only [intOf];omega
          ·have i5:¬ (pl:Int)<(s.size:Int):=by omega
           have hcb:(sL s)[pl]?=none:=List.getElem?_eq_none (by omega)
           have HE:Hid (nvM (sL s) pl (rwF L') (rwF Lu) cc i=-1):=aD (by unfold nvM;simp [ho,hcb])
           go_upto_region 26 with fail
           go_cut [88] (fun v wx=>v=.bool false/\wBl wv wx)
           case first=>
            refine wx9 ?_
            repeat (go_big_quiet_step (first | exact rfl | fail))
            refine wpQuiet_nil ?_
            intro w5 hw5
            have BW:Hid (wBl wv w5):=aD (bS hw5)
            clear hw5
            go_wp2
            go_meet
            exact⟨rfl,BW.o⟩
           case rest=>
            obtain⟨rfl,hBW⟩:=hcut
            have B8:Hid (RwB wc rb L'):=aD ((hBW.block _ lrb).trans B6.o)
            have T8:=aD (T6.o.trans (hBW.mono (by omega)))
            have lrb:=aC B8.o
            clear cr fz
            have cr:=aY B8.o (k:=cc) (by omega)
            rw [HRC.o] at cr
            have fz:=aH B8.o cc
            clear hBW
            go_upto_region 37 with fail
            rw [HE.o] at NS
            by_cases hgt:rc < -1
            ·have B7:=aD (B8.o.set cc (-1))
             have S7:=aD (bV (k:=cc) S5.o NS.o)
             have M7:=bX (m:=(s.size:Int)) (x:=rc) (by rw [<- HRC.o];exact cC (by omega)) hgt (by rw [<- hsl];exact cI (by omega) NS.o)
             go_wp2
             go_roundw
             case rel=>exact⟨_,true,cc,rfl,by go_num,by omega,B7.o,by rw [k5];exact hL',S7.o,T8.o.setCell (by exact htr) _,by omega,fun _=>by omega,(fun q=>nomatch q)⟩
             case measure=>simp only [intOf];omega
            ·go_wp2
             go_roundw
             case rel=>exact⟨L',b,cc,rfl,by go_num,by omega,B8.o,hL',S5.o,T8.o,hmz,BX.o,fun q=>by
              obtain⟨e1,h2⟩:=BF.o q
              subst e1
              refine⟨rfl,fun k j hk hj=>?_⟩
              by_cases e2:k=cc
              ·subst e2
               rw [HI.o] at hj
               cases hj
               rw [HE.o,HRC.o]
               omega
              ·exact h2 k j (by omega) hj⟩
             case measure=>simp only [intOf];omega
         ·rw [ho] at d0
          have ex:=EPS.o true true i.x (by unfold cV;simp [ho])
          have ey:=EPS.o true true i.y (by unfold cV;simp [ho])
          obtain⟨xn,hxn⟩:∃ xn:Nat,i.x=xn:=⟨i.x.toNat,by omega⟩
          obtain⟨yn,hyn⟩:∃ yn:Nat,i.y=yn:=⟨i.y.toNat,by omega⟩
          have cx:=aY B6.o (k:=xn) (by omega)
          have cy:=aY B6.o (k:=yn) (by omega)
          rw [hxn] at d1 ex
          rw [hyn] at d2 ey
          have x0:(0:Int)<=(xn:Int):=ex.1
          have x1:(xn:Int)<(pL.length:Int):=ex.2
          have y0:(0:Int)<=(yn:Int):=ey.1
          have y1:(yn:Int)<(pL.length:Int):=ey.2
          obtain⟨rx,hrx⟩:∃ v,rwF L' xn=v:=⟨_,rfl⟩
          obtain⟨ry,hry⟩:∃ v,rwF L' yn=v:=⟨_,rfl⟩
          obtain⟨E,hE⟩:∃ E,(if rx>ry then rx else ry)=E:=⟨_,rfl⟩
          have BC:=aD (fun W=>qQ rx ry W)
          rw [hE] at BC
          have HE:Hid (nvM (sL s) pl (rwF L') (rwF Lu) cc i=E):=aD (by rw [<- hE,<- hrx,<- hry];unfold nvM;simp [ho,hxn,hyn])
          rw [hrx] at cx
          rw [hry] at cy
          clear hE hrx hry
          go_upto_region 22 with fail
          have BE:=aD (fun W=>(BC.o W).mono (fun e w' h=>(⟨h.1,by rw [h.2];exact Below.refl _ _⟩:e=.returned (.int .i64 E)/\wBl W w')))
          refine wx9 ?_
          repeat (go_big_quiet_step (first | exact rfl |(go_at_call 32;(with_reducible exact bJ (BE.o _)))))
          refine wpQuiet_nil ?_
          intro w5 hw5
          have BW:Hid (wBl wv w5):=aD (bS hw5)
          clear hw5
          have B8:Hid (RwB w5 rb L'):=aD ((BW.o.block _ lrb).trans B6.o)
          have T8:=aD (T6.o.trans (BW.o.mono (by omega)))
          have lrb8:=aC B8.o
          have cr8:=aY B8.o (k:=cc) (by omega)
          rw [HRC.o] at cr8
          have fz8:=aH B8.o cc
          clear cr fz BW
          go_upto_region 37 with fail
          rw [HE.o] at NS
          by_cases hgt:rc<E
          ·have B7:=aD (B8.o.set cc (E))
           have S7:=aD (bV (k:=cc) S5.o NS.o)
           have M7:=bX (m:=(s.size:Int)) (x:=rc) (by rw [<- HRC.o];exact cC (by omega)) hgt (by rw [<- hsl];exact cI (by omega) NS.o)
           go_wp2
           go_roundw
           case rel=>exact⟨_,true,cc,rfl,by go_num,by omega,B7.o,by rw [k5];exact hL',S7.o,T8.o.setCell (by exact htr) _,by omega,fun _=>by omega,(fun q=>nomatch q)⟩
           case measure=>simp only [intOf];omega
          ·go_wp2
           go_roundw
           case rel=>exact⟨L',b,cc,rfl,by go_num,by omega,B8.o,hL',S5.o,T8.o,hmz,BX.o,fun q=>by
            obtain⟨e1,h2⟩:=BF.o q
            subst e1
            refine⟨rfl,fun k j hk hj=>?_⟩
            by_cases e2:k=cc
            ·subst e2
             rw [HI.o] at hj
             cases hj
             rw [HE.o,HRC.o]
             omega
            ·exact h2 k j (by omega) hj⟩
           case measure=>simp only [intOf];omega
         ·rw [ho] at d0
          have ex:=EPS.o true true i.x (by unfold cV;simp [ho])
          obtain⟨xn,hxn⟩:∃ xn:Nat,i.x=xn:=⟨i.x.toNat,by omega⟩
          have cx:=aY B6.o (k:=xn) (by omega)
          rw [hxn] at d1 ex
          have x0:(0:Int)<=(xn:Int):=ex.1
          have x1:(xn:Int)<(pL.length:Int):=ex.2
          obtain⟨rx,hrx⟩:∃ v,rwF L' xn=v:=⟨_,rfl⟩
          rw [hrx] at cx
          have HE:Hid (nvM (sL s) pl (rwF L') (rwF Lu) cc i=rx):=aD (by rw [<- hrx];unfold nvM;simp [ho,hxn])
          clear hrx
          go_upto_region 37 with fail
          rw [HE.o] at NS
          by_cases hgt:rc<rx
          ·have B7:=aD (B6.o.set cc (rx))
           have S7:=aD (bV (k:=cc) S5.o NS.o)
           have M7:=bX (m:=(s.size:Int)) (x:=rc) (by rw [<- HRC.o];exact cC (by omega)) hgt (by rw [<- hsl];exact cI (by omega) NS.o)
           go_wp2
           go_roundw
           case rel=>exact⟨_,true,cc,rfl,by go_num,by omega,B7.o,by rw [k5];exact hL',S7.o,T6.o.setCell (by exact htr) _,by omega,fun _=>by omega,(fun q=>nomatch q)⟩
           case measure=>simp only [intOf];omega
          ·go_wp2
           go_roundw
           case rel=>exact⟨L',b,cc,rfl,by go_num,by omega,B6.o,hL',S5.o,T6.o,hmz,BX.o,fun q=>by
            obtain⟨e1,h2⟩:=BF.o q
            subst e1
            refine⟨rfl,fun k j hk hj=>?_⟩
            by_cases e2:k=cc
            ·subst e2
             rw [HI.o] at hj
             cases hj
             rw [HE.o,HRC.o]
             omega
            ·exact h2 k j (by omega) hj⟩
           case measure=>simp only [intOf];omega
         ·rw [ho] at d0
          have ex:=EPS.o true true ((cc:Int)+1) (by unfold cV;simp [ho])
          have cn:=aY B6.o (k:=cc+1) (by omega)
          obtain⟨rn,hrn⟩:∃ v,rwF L' (cc+1)=v:=⟨_,rfl⟩
          rw [hrn] at cn
          have k2:(cc:Int)+1<(pL.length:Int):=by omega
          have k3:(0:Int)<=(cc:Int)+1:=by omega
          by_cases hpz:pl=0
          ·have hz1:((pl:Int)==0)=true:=by rw [beq_iff_eq];omega
           have HE:Hid (nvM (sL s) pl (rwF L') (rwF Lu) cc i=rn):=aD (by rw [<- hrn];unfold nvM;simp [ho,hpz])
           go_upto_region 37 with fail
           rw [HE.o] at NS
           by_cases hgt:rc<rn
           ·have B7:=aD (B6.o.set cc (rn))
            have S7:=aD (bV (k:=cc) S5.o NS.o)
            have M7:=bX (m:=(s.size:Int)) (x:=rc) (by rw [<- HRC.o];exact cC (by omega)) hgt (by rw [<- hsl];exact cI (by omega) NS.o)
            go_wp2
            go_roundw
            case rel=>exact⟨_,true,cc,rfl,by go_num,by omega,B7.o,by rw [k5];exact hL',S7.o,T6.o.setCell (by exact htr) _,by omega,fun _=>by omega,(fun q=>nomatch q)⟩
            case measure=>simp only [intOf];omega
           ·go_wp2
            go_roundw
            case rel=>exact⟨L',b,cc,rfl,by go_num,by omega,B6.o,hL',S5.o,T6.o,hmz,BX.o,fun q=>by
             obtain⟨e1,h2⟩:=BF.o q
             subst e1
             refine⟨rfl,fun k j hk hj=>?_⟩
             by_cases e2:k=cc
             ·subst e2
              rw [HI.o] at hj
              cases hj
              rw [HE.o,HRC.o]
              omega
             ·exact h2 k j (by omega) hj⟩
            case measure=>simp only [intOf];omega
          ·have hz1:((pl:Int)==0)=false:=by rw [f8];omega
           have hz2:¬ ((pl:Int)=0):=by omega
           have HE:Hid (nvM (sL s) pl (rwF L') (rwF Lu) cc i=-1):=aD (by unfold nvM;simp [ho,hpz])
           go_upto_region 37 with fail
           rw [HE.o] at NS
           by_cases hgt:rc < -1
           ·have B7:=aD (B6.o.set cc (-1))
            have S7:=aD (bV (k:=cc) S5.o NS.o)
            have M7:=bX (m:=(s.size:Int)) (x:=rc) (by rw [<- HRC.o];exact cC (by omega)) hgt (by rw [<- hsl];exact cI (by omega) NS.o)
            go_wp2
            go_roundw
            case rel=>exact⟨_,true,cc,rfl,by go_num,by omega,B7.o,by rw [k5];exact hL',S7.o,T6.o.setCell (by exact htr) _,by omega,fun _=>by omega,(fun q=>nomatch q)⟩
            case measure=>simp only [intOf];omega
           ·go_wp2
            go_roundw
            case rel=>exact⟨L',b,cc,rfl,by go_num,by omega,B6.o,hL',S5.o,T6.o,hmz,BX.o,fun q=>by
             obtain⟨e1,h2⟩:=BF.o q
             subst e1
             refine⟨rfl,fun k j hk hj=>?_⟩
             by_cases e2:k=cc
             ·subst e2
              rw [HI.o] at hj
              cases hj
              rw [HE.o,HRC.o]
              omega
             ·exact h2 k j (by omega) hj⟩
            case measure=>simp only [intOf];omega
         ·rw [ho] at d0
          have ex:=EPS.o true true ((cc:Int)+1) (by unfold cV;simp [ho])
          have cn:=aY B6.o (k:=cc+1) (by omega)
          obtain⟨rn,hrn⟩:∃ v,rwF L' (cc+1)=v:=⟨_,rfl⟩
          rw [hrn] at cn
          have k2:(cc:Int)+1<(pL.length:Int):=by omega
          have k3:(0:Int)<=(cc:Int)+1:=by omega
          by_cases hpz:pl=s.size
          ·have hz1:((pl:Int)==(s.size:Int))=true:=by rw [beq_iff_eq];omega
           have HE:Hid (nvM (sL s) pl (rwF L') (rwF Lu) cc i=rn):=aD (by rw [<- hrn];unfold nvM;simp only [ho,hsl,hpz];simp)
           go_upto_region 37 with fail
           rw [HE.o] at NS
           by_cases hgt:rc<rn
           ·have B7:=aD (B6.o.set cc (rn))
            have S7:=aD (bV (k:=cc) S5.o NS.o)
            have M7:=bX (m:=(s.size:Int)) (x:=rc) (by rw [<- HRC.o];exact cC (by omega)) hgt (by rw [<- hsl];exact cI (by omega) NS.o)
            go_wp2
            go_roundw
            case rel=>exact⟨_,true,cc,rfl,by go_num,by omega,B7.o,by rw [k5];exact hL',S7.o,T6.o.setCell (by exact htr) _,by omega,fun _=>by omega,(fun q=>nomatch q)⟩
            case measure=>simp only [intOf];omega
           ·go_wp2
            go_roundw
            case rel=>exact⟨L',b,cc,rfl,by go_num,by omega,B6.o,hL',S5.o,T6.o,hmz,BX.o,fun q=>by
             obtain⟨e1,h2⟩:=BF.o q
             subst e1
             refine⟨rfl,fun k j hk hj=>?_⟩
             by_cases e2:k=cc
             ·subst e2
              rw [HI.o] at hj
              cases hj
              rw [HE.o,HRC.o]
              omega
             ·exact h2 k j (by omega) hj⟩
            case measure=>simp only [intOf];omega
          ·have hz1:((pl:Int)==(s.size:Int))=false:=by rw [f8];omega
           have hz2:¬ ((pl:Int)=(s.size:Int)):=by omega
           have HE:Hid (nvM (sL s) pl (rwF L') (rwF Lu) cc i=-1):=aD (by unfold nvM;simp only [ho,hsl,hpz];simp)
           go_upto_region 37 with fail
           rw [HE.o] at NS
           by_cases hgt:rc < -1
           ·have B7:=aD (B6.o.set cc (-1))
            have S7:=aD (bV (k:=cc) S5.o NS.o)
            have M7:=bX (m:=(s.size:Int)) (x:=rc) (by rw [<- HRC.o];exact cC (by omega)) hgt (by rw [<- hsl];exact cI (by omega) NS.o)
            go_wp2
            go_roundw
            case rel=>exact⟨_,true,cc,rfl,by go_num,by omega,B7.o,by rw [k5];exact hL',S7.o,T6.o.setCell (by exact htr) _,by omega,fun _=>by omega,(fun q=>nomatch q)⟩
            case measure=>simp only [intOf];omega
           ·go_wp2
            go_roundw
            case rel=>exact⟨L',b,cc,rfl,by go_num,by omega,B6.o,hL',S5.o,T6.o,hmz,BX.o,fun q=>by
             obtain⟨e1,h2⟩:=BF.o q
             subst e1
             refine⟨rfl,fun k j hk hj=>?_⟩
             by_cases e2:k=cc
             ·subst e2
              rw [HI.o] at hj
              cases hj
              rw [HE.o,HRC.o]
              omega
             ·exact h2 k j (by omega) hj⟩
            case measure=>simp only [intOf];omega
         ·rw [ho] at d0
          have ex:=EPS.o true true ((cc:Int)+1) (by unfold cV;simp [ho])
          have cn:=aY B6.o (k:=cc+1) (by omega)
          obtain⟨rn,hrn⟩:∃ v,rwF L' (cc+1)=v:=⟨_,rfl⟩
          rw [hrn] at cn
          have k2:(cc:Int)+1<(pL.length:Int):=by omega
          have k3:(0:Int)<=(cc:Int)+1:=by omega
          have HE:Hid (nvM (sL s) pl (rwF L') (rwF Lu) cc i=rn):=aD (by rw [<- hrn];unfold nvM;simp [ho])
          go_upto_region 37 with fail
          rw [HE.o] at NS
          by_cases hgt:rc<rn
          ·have B7:=aD (B6.o.set cc (rn))
           have S7:=aD (bV (k:=cc) S5.o NS.o)
           have M7:=bX (m:=(s.size:Int)) (x:=rc) (by rw [<- HRC.o];exact cC (by omega)) hgt (by rw [<- hsl];exact cI (by omega) NS.o)
           go_wp2
           go_roundw
           case rel=>exact⟨_,true,cc,rfl,by go_num,by omega,B7.o,by rw [k5];exact hL',S7.o,T6.o.setCell (by exact htr) _,by omega,fun _=>by omega,(fun q=>nomatch q)⟩
           case measure=>simp only [intOf];omega
          ·go_wp2
           go_roundw
           case rel=>exact⟨L',b,cc,rfl,by go_num,by omega,B6.o,hL',S5.o,T6.o,hmz,BX.o,fun q=>by
            obtain⟨e1,h2⟩:=BF.o q
            subst e1
            refine⟨rfl,fun k j hk hj=>?_⟩
            by_cases e2:k=cc
            ·subst e2
             rw [HI.o] at hj
             cases hj
             rw [HE.o,HRC.o]
             omega
            ·exact h2 k j (by omega) hj⟩
           case measure=>simp only [intOf];omega
         ·rw [ho] at d0
          have ex:=EPS.o true true ((cc:Int)+1) (by unfold cV;simp [ho])
          have cn:=aY B6.o (k:=cc+1) (by omega)
          obtain⟨rn,hrn⟩:∃ v,rwF L' (cc+1)=v:=⟨_,rfl⟩
          rw [hrn] at cn
          have k2:(cc:Int)+1<(pL.length:Int):=by omega
          have k3:(0:Int)<=(cc:Int)+1:=by omega
          have HE:Hid (nvM (sL s) pl (rwF L') (rwF Lu) cc i=rn):=aD (by rw [<- hrn];unfold nvM;simp [ho])
          go_upto_region 37 with fail
          rw [HE.o] at NS
          by_cases hgt:rc<rn
          ·have B7:=aD (B6.o.set cc (rn))
           have S7:=aD (bV (k:=cc) S5.o NS.o)
           have M7:=bX (m:=(s.size:Int)) (x:=rc) (by rw [<- HRC.o];exact cC (by omega)) hgt (by rw [<- hsl];exact cI (by omega) NS.o)
           go_wp2
           go_roundw
           case rel=>exact⟨_,true,cc,rfl,by go_num,by omega,B7.o,by rw [k5];exact hL',S7.o,T6.o.setCell (by exact htr) _,by omega,fun _=>by omega,(fun q=>nomatch q)⟩
           case measure=>simp only [intOf];omega
          ·go_wp2
           go_roundw
           case rel=>exact⟨L',b,cc,rfl,by go_num,by omega,B6.o,hL',S5.o,T6.o,hmz,BX.o,fun q=>by
            obtain⟨e1,h2⟩:=BF.o q
            subst e1
            refine⟨rfl,fun k j hk hj=>?_⟩
            by_cases e2:k=cc
            ·subst e2
             rw [HI.o] at hj
             cases hj
             rw [HE.o,HRC.o]
             omega
            ·exact h2 k j (by omega) hj⟩
           case measure=>simp only [intOf];omega
         ·rw [ho] at d0
          have HE:Hid (nvM (sL s) pl (rwF L') (rwF Lu) cc i=(pl:Int)):=aD (by unfold nvM;simp [ho])
          go_upto_region 37 with fail
          rw [HE.o] at NS
          by_cases hgt:rc<(pl:Int)
          ·have B7:=aD (B6.o.set cc ((pl:Int)))
           have S7:=aD (bV (k:=cc) S5.o NS.o)
           have M7:=bX (m:=(s.size:Int)) (x:=rc) (by rw [<- HRC.o];exact cC (by omega)) hgt (by rw [<- hsl];exact cI (by omega) NS.o)
           go_wp2
           go_roundw
           case rel=>exact⟨_,true,cc,rfl,by go_num,by omega,B7.o,by rw [k5];exact hL',S7.o,T6.o.setCell (by exact htr) _,by omega,fun _=>by omega,(fun q=>nomatch q)⟩
           case measure=>simp only [intOf];omega
          ·go_wp2
           go_roundw
           case rel=>exact⟨L',b,cc,rfl,by go_num,by omega,B6.o,hL',S5.o,T6.o,hmz,BX.o,fun q=>by
            obtain⟨e1,h2⟩:=BF.o q
            subst e1
            refine⟨rfl,fun k j hk hj=>?_⟩
            by_cases e2:k=cc
            ·subst e2
             rw [HI.o] at hj
             cases hj
             rw [HE.o,HRC.o]
             omega
            ·exact h2 k j (by omega) hj⟩
           case measure=>simp only [intOf];omega
end
section
attribute [local go_sem] Oper.semAt_some
def tmM(a b:Int):Int:=if a=0\/b=0 then 0 else if 4611686018427387904/b<a then 4611686018427387904 else a*b
theorem sT{a b:Int}(ha:0<=a)(hb:0<=b):0<=tmM a b:=by
 unfold tmM;split
 ·omega
 ·split
  ·omega
  ·exact Int.mul_nonneg ha hb
theorem kO(a b:Int)(ha:0<=a)(hb:0<=b)(w:World):Calls Try.prog 22 #[.int .i64 a,.int .i64 b] w fun e w'=>e=.returned (.int .i64 (tmM a b))/\w'=w:=by
 obtain⟨R,hR⟩:∃ R,tmM a b=R:=⟨_,rfl⟩
 rw [hR]
 unfold tmM at hR
 go_enter Try.func22,Try.ntmps22
 by_cases h1:a=0
 ·have e1:(a==0)=true:=by rw [beq_iff_eq];exact h1
  rw [if_pos (Or.inl h1)] at hR
  subst hR
  clear h1
  go_wp2
  refine bodyPost_ret (v:=.int .i64 0) (by simp [results,Try.results22,go_sem]) rfl ⟨rfl,rfl⟩
 have e1:(a==0)=false:=by rw [f8];exact h1
 by_cases h2:b=0
 ·have e2:(b==0)=true:=by rw [beq_iff_eq];exact h2
  rw [if_pos (Or.inr h2)] at hR
  subst hR
  clear h1 h2
  go_wp2
  refine bodyPost_ret (v:=.int .i64 0) (by simp [results,Try.results22,go_sem]) rfl ⟨rfl,rfl⟩
 have e2:(b==0)=false:=by rw [f8];exact h2
 have td:Int.tdiv 4611686018427387904 b=4611686018427387904/b:=Int.tdiv_eq_ediv_of_nonneg (by omega)
 have q1:0<=4611686018427387904/b:=Int.ediv_nonneg (by omega) hb
 have q2:4611686018427387904/b<=4611686018427387904:=Int.ediv_le_self _ (by omega)
 obtain⟨d,hd⟩:∃ d,4611686018427387904/b=d:=⟨_,rfl⟩
 have q5:¬ d<a->a*b<=4611686018427387904:=fun q=>(Int.le_ediv_iff_mul_le (by omega)).1 (by rw [hd];omega)
 rw [hd] at q1 q2 td
 have wd:IntKind.wrap .i64 d=d:=by rw [IntKind.wrap_i64];omega
 rw [if_neg (by omega),hd] at hR
 clear hd
 by_cases h3:d<a
 ·rw [if_pos h3] at hR
  subst hR
  go_wp2
  refine bodyPost_ret (v:=.int .i64 4611686018427387904) (by simp [results,Try.results22,go_sem]) rfl ⟨rfl,rfl⟩
 ·rw [if_neg h3] at hR
  subst hR
  have q3:=q5 h3
  have q4:0<=a*b:=Int.mul_nonneg ha hb
  have wm:IntKind.wrap .i64 (a*b)=a*b:=by
   generalize a*b=m at q3 q4
   rw [IntKind.wrap_i64];omega
  go_wp2
  refine bodyPost_ret (v:=.int .i64 (a*b)) (by simp [results,Try.results22,go_sem]) rfl ⟨rfl,rfl⟩
end
section
set_option linter.unusedSimpArgs false
set_option linter.unusedVariables false
attribute [local go_sem] Oper.semAt_some
def LgE(P:List Ins)(s:List UInt8)(pl:Nat)(v:Int):Prop:=(v=-1/\∀ e,¬ Mt P s pl e)\/∃ e:Nat,v=e/\Mt P s pl e/\∀ e',Mt P s pl e'->e'<=e
theorem oU{w:World}{p:Pg}(n:Int)(h0:0<=n)(h1:n<=4611686018427387904)(hl:p.L.length<=40000):Calls Try.prog 11 #[.agg #[.slice p.q p.L.length p.c,.int .i64 p.g,.int .i64 p.k,.bool p.f],.int .i64 n] w fun e w'=>e=.returned (.int .i64 (tmM (tmM 4 p.L.length) (n+1)))/\wBl w w':=by
 have B1:Hid (wBl w (w.alloc (.cells #[.slice p.q p.L.length p.c,.int .i64 p.g,.int .i64 p.k,.bool p.f] 24))):=bz9
 have X1:Hid ((w.alloc (.cells #[.slice p.q p.L.length p.c,.int .i64 p.g,.int .i64 p.k,.bool p.f] 24)).heap[w.heap.size]?=some (.cells #[.slice p.q p.L.length p.c,.int .i64 p.g,.int .i64 p.k,.bool p.f] 24 (0,0))):=aE w _
 have hw:IntKind.wrap .i64 (n+1)=n+1:=wrap_small _ (by omega) (by omega)
 have T1:=aD (fun W=>kO 4 (p.L.length:Int) (by omega) (by omega) W)
 have nn:=sT (a:=4) (b:=(p.L.length:Int)) (by omega) (by omega)
 obtain⟨t,ht⟩:∃ t,tmM 4 (p.L.length:Int)=t:=⟨_,rfl⟩
 rw [ht] at T1 nn ⊢
 have T2:=aD (fun W=>kO t (n+1) nn (by omega) W)
 clear ht nn
 go_enter Try.func11,Try.ntmps11
 go_upto_region 1 with fail
 generalize (w.alloc (.cells #[.slice p.q p.L.length p.c,.int .i64 p.g,.int .i64 p.k,.bool p.f] 24))=w1 at B1 X1 ⊢
 have p0:=aA X1.o (i:=0) rfl
 go_wp2_with first
  |(go_at_call 22;(with_reducible refine(T1.o _).mono ?_);rintro e w5 ⟨rfl,h5⟩;subst h5)
  |(go_at_call 22;(with_reducible refine(T2.o _).mono ?_);rintro e w5 ⟨rfl,h5⟩;subst h5)
 go_ret
 exact⟨rfl,B1.o⟩
end
section
set_option linter.unusedSimpArgs false
set_option linter.unusedVariables false
attribute [local go_sem] Oper.semAt_some
theorem kJ(n:Nat)(h:n<=1000000000)(w:World) :
  (Instr.makeSlice 32 (.int .i64 (n:Int)) (.int .i64 (n:Int))).run Try.prog w=.ok (.slice (some ⟨w.heap.size,0,none⟩) n n) (w.alloc (.cells (bO (List.replicate n 0)).toArray 3)):=by
 obtain⟨i0,hi,hz0,hz1,hz2⟩:=info_parts eI
 have:=run_make (P:=Try.prog) w 32 3 i0 (.int .i64 0) gH hi hz0 .i64 .i64 (n:Int) (n:Int) (by omega) (by omega) (by rw [hz2];omega) (by omega)
 rw [hz1] at this
 have e:madeCells #[.int .i64 0] n=(bO (List.replicate n 0)).toArray:=by
  apply Array.ext
  ·simp [madeCells,bO]
  intro i h1 h2
  simp [madeCells,bO,Nat.mod_one]
 simpa [Value.cells,e] using this
theorem kL{w:World}{p:Pg}(h:PgI w p)(hr:(rtE p).1=0)(hf:cB p=true)(s:ByteArray)(hs:s.size<=100000000):Calls Try.prog 10 #[.agg #[.slice p.q p.L.length p.c,.int .i64 p.g,.int .i64 p.k,.bool p.f],.string s] w fun e w'=>∃ g L,e=.returned (.slice (some ⟨g,0,none⟩) (s.size+1) (s.size+1))/\wBl w w'/\RwB w' g L/\L.length=s.size+1/\∀ pl,pl<=s.size->LgE p.L (sL s) pl (rwF L pl):=by
 have B1:Hid (wBl w (w.alloc (.cells #[.slice p.q p.L.length p.c,.int .i64 p.g,.int .i64 p.k,.bool p.f] 24))):=bz9
 have X1:Hid ((w.alloc (.cells #[.slice p.q p.L.length p.c,.int .i64 p.g,.int .i64 p.k,.bool p.f] 24)).heap[w.heap.size]?=some (.cells #[.slice p.q p.L.length p.c,.int .i64 p.g,.int .i64 p.k,.bool p.f] 24 (0,0))):=aE w _
 have RC:=aD (sW (h.kept B1.o) hr hf s hs)
 have GG:=aD (fG hr)
 have hpos:=GG.o.pos
 have hwn:IntKind.wrap .i64 ((s.size:Int)+1)=(s.size:Int)+1:=wrap_small _ (by omega) (by omega)
 obtain⟨pq,pL,pc,pg,pk,pf⟩:=p
 dsimp only at *
 clear h hr hf
 go_enter Try.func10,Try.ntmps10
 go_upto_region 1 with fail
 generalize (w.alloc (.cells #[.slice pq pL.length pc,.int .i64 pg,.int .i64 pk,.bool pf] 24))=w1 at B1 X1 RC ⊢
 have p0:=aA X1.o (i:=0) rfl
 have p1:=aA X1.o (i:=1) rfl
 have p2:=aA X1.o (i:=2) rfl
 have p3:=aA X1.o (i:=3) rfl
 go_upto_region 2 with (go_at_call 21;(with_reducible refine(RC.o).mono ?_);rintro e w2 ⟨ab,top,rfl,hR⟩;have R2:=aD hR;clear hR)
 clear p0 p1 p2 p3
 have MI:=fun W=>kJ (s.size+1) (by omega) W
 rw [show (((s.size+1:Nat)):Int)=(s.size:Int)+1 by omega] at MI
 go_upto_region 4 with fail
 have BA:wBl w2 (w2.alloc (.cells (bO (List.replicate (s.size+1) 0)).toArray 3)):=bz9
 have RB:Hid (RwB (w2.alloc (.cells (bO (List.replicate (s.size+1) 0)).toArray 3)) w2.heap.size (List.replicate (s.size+1) 0)):=aE w2 _
 have R3:=aD (R2.o.then (BA.mono R2.o.lo.2.2))
 have ht:=R2.o.lo.2.2
 obtain⟨g,hg⟩:∃ g,w2.heap.size=g:=⟨_,rfl⟩
 rw [hg] at RB ht ⊢
 generalize (w2.alloc (.cells (bO (List.replicate (s.size+1) 0)).toArray 3))=w3 at RB R3 ⊢
 clear BA MI hg R2
 go_loopw [7] (fun i wr=>∃ (j:Nat) (L:List Int),j<=s.size+1/\i=.int .i64 (j:Int)/\RwB wr g L/\L.length=s.size+1/\(∀ pl,pl<j->LgE pL (sL s) pl (rwF L pl))/\Below top w3 wr) (fun i _=>s.size+1-(intOf i).toNat)
 case atStart=>exact⟨0,_,by omega,rfl,RB.o,by simp,fun pl hp=>absurd hp (Nat.not_lt_zero _),Below.refl _ _⟩
 case round=>
  obtain⟨j,L,hj,rfl,hB,hL,hE,hT⟩:=hrel
  have B5:=aD hB
  have E5:=aD hE
  have T5:=aD hT
  have R5:=aD (R3.o.then hT)
  clear hB hE hT
  by_cases hjn:j<s.size+1
  ·have j0:(0:Int)<=(j:Int):=by omega
   have j1:(j:Int)<(s.size:Int)+1:=by omega
   obtain⟨cs,h1,h2,h3⟩:=R5.o.all
   obtain⟨g6,L6,q1,q2,q3,q4,q5,q6⟩:=h3 j (o7 _) (by omega)
   have ca:=aA h1 q1
   have la:=aC h1
   have lg6:=aC q2
   have c6:=aY q2 (k:=0) (by omega)
   have V6:=aD (q6.at0 GG.o)
   obtain⟨v,hv⟩:∃ v,rwF L6 0=v:=⟨_,rfl⟩
   rw [hv] at c6 V6
   have lb:=aC B5.o
   have cg:=aY B5.o (k:=j) (by omega)
   have fz:=aH B5.o j
   have m0:(0:Int)<(pL.length:Int):=by omega
   have B7:=aD (B5.o.set j v)
   have E7:Hid (∀ pl,pl<j+1->LgE pL (sL s) pl (rwF (L.set j v) pl)):=aD (fun pl hp=>by
    by_cases e:j=pl
    ·subst e
     have:rwF (L.set j v) j=v:=by show (L.set j v).getD j (-1)=v;rw [List.getD_eq_getElem?_getD,List.getElem?_set_self (by omega)];rfl
     rw [this]
     exact V6.o
    ·have:rwF (L.set j v) pl=rwF L pl:=by show (L.set j v).getD pl (-1)=L.getD pl (-1);rw [List.getD_eq_getElem?_getD,List.getElem?_set_ne e,<- List.getD_eq_getElem?_getD]
     rw [this]
     exact E5.o pl (by omega))
   clear h1 h2 h3 q1 q2 q6 hv
   go_wp2
   go_roundw
   case rel=>exact⟨j+1,_,by omega,by go_num,B7.o,by rw [k5];exact hL,E7.o,T5.o.setCell (by exact ht) _⟩
   case measure=>simp only [intOf];omega
  ·have j1:¬ (j:Int)<(s.size:Int)+1:=by omega
   go_wp2
   go_ret
   exact⟨g,rfl,B1.o.trans (R5.o.bel.mono (B1.o.size)),L,B5.o,hL,fun pl hp=>E5.o pl (by omega)⟩
end
section
attribute [local go_sem] Oper.semAt_some bI
def LgS(P:List Ins)(l:List UInt8)(a:Nat)(n:Int)(ok:Bool):Prop:=(ok=false/\n=0/\∀ e,¬ Mt P l a e)\/(ok=true/\∃ e:Nat,n=e/\Mt P l a e/\∀ e',Mt P l a e'->e'<=e)
theorem qD{P:List Ins}{l:List UInt8}{a:Nat}{fd:Bool}{F T:Int}(h:dT P l a a fd F T):LgS P l a T fd:=by
 cases fd with
 | false=>exact .inl ⟨rfl,(h.z rfl).2,fun e=>h.no rfl a e lz9 lz9⟩
 | true=>
  obtain⟨b,e,q1,q2,q3,q4,q5,q6⟩:=h.yes rfl
  obtain rfl:b=a:=by omega
  exact .inr ⟨rfl,e,q2,q5,fun e' h'=>(q6 b e' lz9 lz9 h').2 rfl⟩
theorem kE{w w3:World}{p:Pg}{s:ByteArray}{n rb:Nat}{A B:Cr4}{la lb:List Int}(h:PgI w p)(gp:GP p.L)(B3:wBl w w3)(hR:tS p s n w3 rb A B la lb)(hn:w.heap.size<=n):PlI w3 rb p s A B la lb:=by
 refine⟨hR.r,hR.a,hR.b,gp,h.li.kept B3,hR.ab,hR.nr.2.1,hR.nr.2.2,fun g o hq=>?_⟩
 obtain⟨i0,hi⟩:∃ i0,p.L[0]?=some i0:=⟨_,j4 gp.pos⟩
 obtain⟨g',o',h1,h2,_⟩:=h.li 0 i0 hi
 rw [hq] at h1
 injection h1 with h1
 injection h1 with h1
 subst h1
 have:=B3.size
 have:=hR.nr.1
 exact⟨by omega,by omega,fun q=>by have:=hR.na g q;omega,fun q=>by have:=hR.nb g q;omega⟩
theorem gX{w:World}{p:Pg}(h:PgI w p)(s:ByteArray)(pl:Int)(hz:wrM p s.size pl≠0):Calls Try.prog 7 #[.agg #[.slice p.q p.L.length p.c,.int .i64 p.g,.int .i64 p.k,.bool p.f],.string s,.int .i64 pl] w fun e w'=>e=.returned (.tuple #[.int .i64 0,.bool false,.int .i64 0,.int .i64 (wrM p s.size pl)])/\wBl w w':=by
 have B1:Hid (wBl w (w.alloc (.cells #[.slice p.q p.L.length p.c,.int .i64 p.g,.int .i64 p.k,.bool p.f] 24))):=bz9
 have X1:Hid ((w.alloc (.cells #[.slice p.q p.L.length p.c,.int .i64 p.g,.int .i64 p.k,.bool p.f] 24)).heap[w.heap.size]?=some (.cells #[.slice p.q p.L.length p.c,.int .i64 p.g,.int .i64 p.k,.bool p.f] 24 (0,0))):=aE w _
 have HW:=aD (eC (h.kept B1.o) s pl)
 obtain⟨v,hv⟩:∃ v,wrM p s.size pl=v:=⟨_,rfl⟩
 rw [hv] at HW hz ⊢
 have z0:(v != 0)=true:=by simp [hz]
 clear hv hz h
 go_enter Try.func7,Try.ntmps7
 go_upto_region 1 with fail
 generalize (w.alloc (.cells #[.slice p.q p.L.length p.c,.int .i64 p.g,.int .i64 p.k,.bool p.f] 24))=w1 at B1 X1 HW ⊢
 have p0:=aA X1.o (i:=0) rfl
 have p1:=aA X1.o (i:=1) rfl
 have p2:=aA X1.o (i:=2) rfl
 have p3:=aA X1.o (i:=3) rfl
 go_wp2_with (go_at_call 15;(with_reducible refine(HW.o).mono ?_);rintro e w2 ⟨rfl,h2⟩;have B2:=aD (aF B1.o h2 lz9);clear h2)
 refine bodyPost_ret (v:=.tuple #[.int .i64 0,.bool false,.int .i64 0,.int .i64 v]) (by simp [results,Try.results7,go_sem]) rfl ?_
 exact⟨rfl,B2.o⟩
theorem kK{w:World}{p:Pg}(h:PgI w p)(s:ByteArray)(a:Nat)(hz:wrM p s.size (a:Int)=0)(hsz:s.size<=4611686018427387904):Calls Try.prog 7 #[.agg #[.slice p.q p.L.length p.c,.int .i64 p.g,.int .i64 p.k,.bool p.f],.string s,.int .i64 (a:Int)] w fun e w'=>(∃ n ok st,e=.returned (.tuple #[.int .i64 n,.bool ok,.int .i64 st,.int .i64 0])/\LgS p.L (sL s) a n ok)/\wBl w w':=by
 have B1:Hid (wBl w (w.alloc (.cells #[.slice p.q p.L.length p.c,.int .i64 p.g,.int .i64 p.k,.bool p.f] 24))):=bz9
 have X1:Hid ((w.alloc (.cells #[.slice p.q p.L.length p.c,.int .i64 p.g,.int .i64 p.k,.bool p.f] 24)).heap[w.heap.size]?=some (.cells #[.slice p.q p.L.length p.c,.int .i64 p.g,.int .i64 p.k,.bool p.f] 24 (0,0))):=aE w _
 have HW:=aD (eC (h.kept B1.o) s (a:Int))
 rw [hz] at HW
 obtain⟨hr,_,_,hal⟩:=fR hz
 have GG:=aD (fG hr)
 have hal:a<=s.size:=by omega
 have HH:=aD h
 have hn:=GG.o.len
 clear h hz hr
 go_enter Try.func7,Try.ntmps7
 go_upto_region 1 with fail
 generalize (w.alloc (.cells #[.slice p.q p.L.length p.c,.int .i64 p.g,.int .i64 p.k,.bool p.f] 24))=w1 at B1 X1 HW ⊢
 have p0:=aA X1.o (i:=0) rfl
 have p1:=aA X1.o (i:=1) rfl
 have p2:=aA X1.o (i:=2) rfl
 have p3:=aA X1.o (i:=3) rfl
 go_upto_region 4 with (go_at_call 15;(with_reducible refine(HW.o).mono ?_);rintro e w2 ⟨rfl,h2⟩;have B2:=aD (aF B1.o h2 lz9);have X2:=aD ((h2.block _ (aC X1.o)).trans X1.o);clear h2)
 clear p0 p1 p2 p3
 have p0:=aA X2.o (i:=0) rfl
 have p1:=aA X2.o (i:=1) rfl
 have p2:=aA X2.o (i:=2) rfl
 have p3:=aA X2.o (i:=3) rfl
 go_upto_region 5 with (go_at_call 16;(with_reducible refine(eN hn s).mono ?_);rintro e w3 ⟨rb,A,B,la,lb,rfl,h31,h32⟩;have R3:=aD h31;have B3:=aD (aF B2.o h32 lz9);have S3:=aD h32.size;clear h31 h32)
 clear p0 p1 p2 p3
 have PC:=aD (pW (first:=a) (last:=a) (kE HH.o GG.o B3.o R3.o B2.o.size) lz9 hal hsz)
 go_upto_region 6 with (go_at_call 17;(with_reducible refine(PC.o).mono ?_);rintro e w4 ⟨fd,F,T,rfl,h41,h42,h43⟩;have F4:=aD h41;have R4:=aD h42;have B4:=aD (B3.o.trans (h43.below B3.o.size (fun k hk=>by
  rcases hk with hk | hk | hk
  ·exact k6 B2.o.size (R3.o.na k hk)
  ·exact k6 B2.o.size (R3.o.nb k hk)
  ·have:=R3.o.nr.1;have:=B2.o.size;omega)));clear h41 h42 h43)
 obtain⟨A4,B4',st,hrun,-⟩:=R4.o
 have BA:wBl w4 (w4.alloc (.cells #[.int .i64 F,.int .i64 T] 37)):=bz9
 have R5:=aD ((BA.block _ (aC hrun)).trans hrun)
 have P5:Hid ((w4.alloc (.cells #[.int .i64 F,.int .i64 T] 37)).heap[w4.heap.size]?=some (.cells #[.int .i64 F,.int .i64 T] 37 (0,0))):=aE w4 _
 have B5:=aD (aF B4.o BA lz9)
 clear BA hrun R4
 generalize (w4.alloc (.cells #[.int .i64 F,.int .i64 T] 37))=V at R5 P5 B5 ⊢
 have lr:=aC R5.o
 have lp:=aC P5.o
 have q1:V.cell? ⟨w4.heap.size,1,none⟩=some (.int .i64 T):=aA P5.o (i:=1) rfl
 have q6:V.cell? ⟨rb,6,none⟩=some (.int .i64 st):=aA R5.o (i:=6) rfl
 refine wx9 ?_
 repeat (go_big_quiet_step (first | exact rfl))
 refine wpQuiet_nil ?_
 rintro _ ⟨x,rfl⟩
 go_wp2
 refine bodyPost_ret (v:=.tuple #[.int .i64 T,.bool fd,.int .i64 st,.int .i64 0]) (by simp [results,Try.results7,go_sem]) rfl ?_
 exact⟨⟨_,_,_,rfl,qD F4.o⟩,B5.o.trans (x.2.mono B5.o.size)⟩
theorem kW{w:World}{p:Pg}(h:PgI w p)(s:ByteArray)(a:Nat)(hz:wrM p s.size (a:Int)=0)(hsz:s.size<=4611686018427387904):Calls Try.prog 12 #[.agg #[.slice p.q p.L.length p.c,.int .i64 p.g,.int .i64 p.k,.bool p.f],.string s,.int .i64 (a:Int)] w fun e w'=>(∃ F T ok st,e=.returned (.tuple #[.agg #[.int .i64 F,.int .i64 T],.bool ok,.int .i64 st,.int .i64 0])/\dT p.L (sL s) a s.size ok F T)/\wBl w w':=by
 have B1:Hid (wBl w ((w.alloc (.cells #[.slice p.q p.L.length p.c,.int .i64 p.g,.int .i64 p.k,.bool p.f] 24)).alloc (.cells #[.int .i64 0,.int .i64 0] 37))):=(bz9).alloc (by simp) _
 have X1:Hid (((w.alloc (.cells #[.slice p.q p.L.length p.c,.int .i64 p.g,.int .i64 p.k,.bool p.f] 24)).alloc (.cells #[.int .i64 0,.int .i64 0] 37)).heap[w.heap.size]?=some (.cells #[.slice p.q p.L.length p.c,.int .i64 p.g,.int .i64 p.k,.bool p.f] 24 (0,0))):=(Below.heap_alloc _ _ _ (by simp)).trans (aE w _)
 have Y1:Hid (((w.alloc (.cells #[.slice p.q p.L.length p.c,.int .i64 p.g,.int .i64 p.k,.bool p.f] 24)).alloc (.cells #[.int .i64 0,.int .i64 0] 37)).heap[w.heap.size+1]?=some (.cells #[.int .i64 0,.int .i64 0] 37 (0,0))):=(by
  have:=aE (w.alloc (.cells #[.slice p.q p.L.length p.c,.int .i64 p.g,.int .i64 p.k,.bool p.f] 24)) (.cells #[.int .i64 0,.int .i64 0] 37)
  rwa [o6] at this)
 have HW:=aD (eC (h.kept B1.o) s (a:Int))
 rw [hz] at HW
 obtain⟨hr,_,_,hal⟩:=fR hz
 have GG:=aD (fG hr)
 have hal:a<=s.size:=by omega
 have HH:=aD h
 have hn:=GG.o.len
 clear h hz hr
 go_enter Try.func12,Try.ntmps12
 go_upto_region 1 with fail
 have sz1:((w.alloc (.cells #[.slice p.q p.L.length p.c,.int .i64 p.g,.int .i64 p.k,.bool p.f] 24)).alloc (.cells #[.int .i64 0,.int .i64 0] 37)).heap.size=w.heap.size+1+1:=by simp
 generalize ((w.alloc (.cells #[.slice p.q p.L.length p.c,.int .i64 p.g,.int .i64 p.k,.bool p.f] 24)).alloc (.cells #[.int .i64 0,.int .i64 0] 37))=w1 at B1 X1 Y1 HW sz1 ⊢
 have SZ1:=aD sz1
 clear sz1
 have p0:=aA X1.o (i:=0) rfl
 have p1:=aA X1.o (i:=1) rfl
 have p2:=aA X1.o (i:=2) rfl
 have p3:=aA X1.o (i:=3) rfl
 go_upto_region 4 with (go_at_call 15;(with_reducible refine(HW.o).mono ?_);rintro e w2 ⟨rfl,h2⟩;have B2:=aD (aF B1.o h2 lz9);have X2:=aD ((h2.block _ (aC X1.o)).trans X1.o);have Y2:=aD ((h2.block _ (aC Y1.o)).trans Y1.o);clear h2)
 clear p0 p1 p2 p3
 have p0:=aA X2.o (i:=0) rfl
 have p1:=aA X2.o (i:=1) rfl
 have p2:=aA X2.o (i:=2) rfl
 have p3:=aA X2.o (i:=3) rfl
 go_upto_region 5 with (go_at_call 16;(with_reducible refine(eN hn s).mono ?_);rintro e w3 ⟨rb,A,B,la,lb,rfl,h31,h32⟩;have R3:=aD h31;have B3:=aD (aF B2.o h32 lz9);have Y3:=aD ((h32.block _ (aC Y2.o)).trans Y2.o);clear h31 h32)
 clear p0 p1 p2 p3
 have PC:=aD (pW (first:=a) (last:=s.size) (kE HH.o GG.o B3.o R3.o B2.o.size) hal lz9 hsz)
 have ly:Hid (w.heap.size+1<w2.heap.size):=aC Y2.o
 go_upto_region 6 with (go_at_call 17;(with_reducible refine(PC.o).mono ?_);rintro e w4 ⟨fd,F,T,rfl,h41,h42,h43⟩;have F4:=aD h41;have R4:=aD h42;have B4:=aD (B3.o.trans (h43.below B3.o.size (fun k hk=>by
  rcases hk with hk | hk | hk
  ·exact k6 B2.o.size (R3.o.na k hk)
  ·exact k6 B2.o.size (R3.o.nb k hk)
  ·have:=R3.o.nr.1;have:=B2.o.size;omega)));have Y4:=aD ((h43.block _ (aC Y3.o) (fun hk=>by
  have:=ly.o
  rcases hk with hk | hk | hk
  ·have:=R3.o.na _ hk;omega
  ·have:=R3.o.nb _ hk;omega
  ·have:=R3.o.nr.1;omega)).trans Y3.o);clear h41 h42 h43)
 obtain⟨A4,B4',st,hrun,-⟩:=R4.o
 have BA:wBl w4 (w4.alloc (.cells #[.int .i64 F,.int .i64 T] 37)):=bz9
 have R5:=aD ((BA.block _ (aC hrun)).trans hrun)
 have P5:Hid ((w4.alloc (.cells #[.int .i64 F,.int .i64 T] 37)).heap[w4.heap.size]?=some (.cells #[.int .i64 F,.int .i64 T] 37 (0,0))):=aE w4 _
 have Y5:=aD ((BA.block _ (aC Y4.o)).trans Y4.o)
 have B5:=aD (aF B4.o BA lz9).drew
 have ly4:Hid (w.heap.size+1<w4.heap.size):=aC Y4.o
 clear BA hrun R4
 generalize (w4.alloc (.cells #[.int .i64 F,.int .i64 T] 37))=V at R5 P5 B5 Y5 ⊢
 have nrp:Hid (rb≠w.heap.size+1):=aD (by have:=R3.o.nr.1;have:=ly.o;omega)
 have SK0:Hid (V.drew.cell? ⟨w4.heap.size,0,none⟩=some (.int .i64 F)/\V.drew.cell? ⟨w4.heap.size,1,none⟩=some (.int .i64 T)/\V.drew.cell? ⟨rb,6,none⟩=some (.int .i64 st)):=aD ⟨aA P5.o (i:=0) rfl,aA P5.o (i:=1) rfl,aA R5.o (i:=6) rfl⟩
 have YD:Hid (V.drew.heap[w.heap.size+1]?=some (.cells #[.int .i64 0,.int .i64 0] 37 (0,0))):=Y5.o
 have SK:Hid (((V.drew.setCell ⟨w.heap.size+1,0,none⟩ (.int .i64 F)).setCell ⟨w.heap.size+1,1,none⟩ (.int .i64 T)).cell? ⟨w4.heap.size,0,none⟩=some (.int .i64 F)/\((V.drew.setCell ⟨w.heap.size+1,0,none⟩ (.int .i64 F)).setCell ⟨w.heap.size+1,1,none⟩ (.int .i64 T)).cell? ⟨w4.heap.size,1,none⟩=some (.int .i64 T)/\((V.drew.setCell ⟨w.heap.size+1,0,none⟩ (.int .i64 F)).setCell ⟨w.heap.size+1,1,none⟩ (.int .i64 T)).cell? ⟨rb,6,none⟩=some (.int .i64 st)):=aD (by
  have hf:Fr (fun k=>k=w.heap.size+1) V.drew ((V.drew.setCell ⟨w.heap.size+1,0,none⟩ (.int .i64 F)).setCell ⟨w.heap.size+1,1,none⟩ (.int .i64 T)):=((Fr.refl (fun k=>k=w.heap.size+1) _).setCell (p:=⟨w.heap.size+1,0,none⟩) rfl _).setCell (p:=⟨w.heap.size+1,1,none⟩) rfl _
  have h1:=(hf.block w4.heap.size (by exact aC P5.o) (by have:=ly4.o;show ¬ (w4.heap.size=w.heap.size+1);omega)).trans P5.o
  have h2:=(hf.block rb (by exact aC R5.o) nrp.o).trans R5.o
  exact⟨aA h1 (i:=0) rfl,aA h1 (i:=1) rfl,aA h2 (i:=6) rfl⟩)
 have hz:=aG (aG YD.o 0 (.int .i64 F)) 1 (.int .i64 T)
 have k0:=aA hz (i:=0) rfl
 have k1:=aA hz (i:=1) rfl
 have BZ:Hid (wBl w ((V.drew.setCell ⟨w.heap.size+1,0,none⟩ (.int .i64 F)).setCell ⟨w.heap.size+1,1,none⟩ (.int .i64 T))):=aD ((B5.o.setCell (p:=⟨w.heap.size+1,0,none⟩) (by simp) _).setCell (p:=⟨w.heap.size+1,1,none⟩) (by simp) _)
 clear hz
 refine wp_region_held_drew (S:=fun w'=>w'.cell? ⟨w4.heap.size,0,none⟩=some (.int .i64 F)/\w'.cell? ⟨w4.heap.size,1,none⟩=some (.int .i64 T)/\w'.cell? ⟨rb,6,none⟩=some (.int .i64 st)) (by kernel_rfl) SK0.o ?_
 intro hS0
 generalize V.drew=U at SK0 YD SK BZ k0 k1 hS0 ⊢
 have y0:=aA YD.o (i:=0) rfl
 have y1:=aA YD.o (i:=1) rfl
 have g0:=aH YD.o 0
 have g1:=aH YD.o 1
 refine wpAnyH_take (i:=0) (oi:=_) (v:=?_) rfl (by kernel_rfl) (by kernel_rfl) (by kernel_rfl) (fun _ _ _ h=>h) (Or.inl ⟨by rfl,?_⟩) (by assumption) ?_
 rotate_left
 ·intro wz hSw
  obtain⟨hs0,hs1,hs2⟩:=hSw
  go_simp
  try with_reducible rfl
 dsimp only [Act.put,i8,g7,g9]
 simp only [f9,i9,j3]
 refine wpAnyH_take (i:=1) (oi:=_) (v:=?_) rfl (by kernel_rfl) (by kernel_rfl) (by kernel_rfl) (fun _ _ _ h=>h) (Or.inl ⟨by rfl,?_⟩) (by assumption) ?_
 rotate_left
 ·intro wz hSw
  obtain⟨hs0,hs1,hs2⟩:=hSw
  go_simp
  try with_reducible rfl
 dsimp only [Act.put,i8,g7,g9]
 simp only [f9,i9,j3]
 refine wpAnyH_take (i:=2) (oi:=_) (v:=?_) rfl (by kernel_rfl) (by kernel_rfl) (by kernel_rfl) (fun _ _ _ h=>h) (Or.inl ⟨by rfl,?_⟩) (by assumption) ?_
 rotate_left
 ·intro wz hSw
  obtain⟨hs0,hs1,hs2⟩:=hSw
  go_simp
  try with_reducible rfl
 dsimp only [Act.put,i8,g7,g9]
 simp only [f9,i9,j3]
 refine wpAnyH_take (i:=3) (oi:=_) (v:=?_) rfl (by kernel_rfl) (by kernel_rfl) (by kernel_rfl) (fun _ _ _ h=>h) (Or.inl ⟨by rfl,?_⟩) (by assumption) ?_
 rotate_left
 ·intro wz hSw
  obtain⟨hs0,hs1,hs2⟩:=hSw
  go_simp
  try with_reducible rfl
 dsimp only [Act.put,i8,g7,g9]
 simp only [f9,i9,j3]
 refine wpAnyH_take (i:=4) (oi:=_) (v:=?_) rfl (by kernel_rfl) (by kernel_rfl) (by kernel_rfl) (fun _ _ _ h=>h) (Or.inl ⟨by rfl,?_⟩) (by assumption) ?_
 rotate_left
 ·intro wz hSw
  obtain⟨hs0,hs1,hs2⟩:=hSw
  go_simp
  try with_reducible rfl
 dsimp only [Act.put,i8,g7,g9]
 simp only [f9,i9,j3]
 refine wpAnyH_take (i:=5) (oi:=_) (v:=?_) rfl (by kernel_rfl) (by kernel_rfl) (by kernel_rfl) (fun _ _ _ h=>h) (Or.inl ⟨by rfl,?_⟩) (by assumption) ?_
 rotate_left
 ·intro wz hSw
  obtain⟨hs0,hs1,hs2⟩:=hSw
  go_simp
  try with_reducible rfl
 dsimp only [Act.put,i8,g7,g9]
 simp only [f9,i9,j3]
 refine wpAnyH_ready (rs:=[6]) (by kernel_rfl) (by simp) ?_
 refine AllReadyH.cons rfl (fun K hK=>?_) AllReadyH.nil
 go_simp
 refine hK.out _ _ SK.o (fun hSx=>?_)
 clear hK K hSx
 refine wpAnyH_ready (rs:=[7]) (by kernel_rfl) (by simp) ?_
 refine AllReadyH.cons rfl (fun K hK=>?_) AllReadyH.nil
 go_simp
 refine hK.out _ _ SK.o (fun hSx=>?_)
 clear hK K hSx
 refine wpAnyH_ready (rs:=[8]) (by kernel_rfl) (by simp) ?_
 refine AllReadyH.cons rfl (fun K hK=>?_) AllReadyH.nil
 go_simp
 refine hK.out _ _ SK.o (fun hSx=>?_)
 clear hK K hSx
 refine wpAnyH_ready (rs:=[9]) (by kernel_rfl) (by simp) ?_
 refine AllReadyH.cons rfl (fun K hK=>?_) AllReadyH.nil
 go_simp
 refine hK.out _ _ SK.o (fun hSx=>?_)
 clear hK K hSx
 refine wpAnyH_done (by kernel_rfl) ?_ _
 go_wp2
 refine bodyPost_ret (v:=.tuple #[.agg #[.int .i64 F,.int .i64 T],.bool fd,.int .i64 st,.int .i64 0]) (by simp [results,Try.results12,go_sem,k0,k1]) rfl ?_
 exact⟨⟨_,_,_,_,rfl,F4.o⟩,BZ.o⟩
end
end Go.Proofs.Ytliflleaeimngaa
