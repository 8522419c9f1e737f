/-
  Parts of the proof.
-/
import Derived.Test.YtpfdapnfkghgkaaGreatDoorReadsProof9B15
import Derived.Test.YtpfdapnfkghgkaaGreatDoorReadsProof9B3
import Derived.Laws.IdiomStrings
import Derived.Laws.BytesArg
import Derived.Test.YtpfdapnfkghgkaaGreatDoorReadsProof9B22
import Derived.Test.YtpfdapnfkghgkaaGreatDoorReadsProof9B10
import Derived.Test.YtpfdapnfkghgkaaGreatDoorReadsProof9B11
import Derived.Laws.AppendOwnNone
import Derived.Test.YtpfdapnfkghgkaaGreatDoorReadsProof9B13
set_option maxRecDepth 100000
set_option maxHeartbeats 8000000
namespace Go.Proofs.YtpfdapnfkghgkaaGreatDoor
open Go Go.RowKit
mutual
def dE:Er->Nat | .mk _ _ _ _ _ ks=>dEs ks+1
def dEs:List Er->Nat | []=>0 | x :: l=>max (dE x) (dEs l)
end
theorem lD:dEs []=0:=by rw [dEs]
theorem jY(x:Er)(l:List Er):dEs (x :: l)=max (dE x) (dEs l):=by rw [dEs]
theorem bG2(x:Er):1<=dE x:=by cases x;rw [dE];omega
theorem bG1{x:Er}{l:List Er}(h:x∈l):dE x<=dEs l:=by
 induction l with
 | nil=>cases h
 | cons y l ih=>
  rw [jY]
  rcases List.mem_cons.1 h with e | e
  ·subst e;omega
  ·have:=ih e;omega
theorem aZ3{l:List Er}{m:Nat}(h:∀ x∈l,dE x<=m):dEs l<=m:=by
 induction l with
 | nil=>rw [lD];omega
 | cons y l ih=>
  rw [jY]
  have:=h y (List.mem_cons_self ..)
  have:=ih fun x hx=>h x (List.mem_cons_of_mem _ hx)
  omega
theorem bC1(t:Tr):dE (er t)=dEs (t.ks.map er)+1:=by rw [eL,dE]
theorem yV:∀ l:List Ps,(∀ x∈l,dE (te x)=x.dp)->dEs (l.map te)=eF l
 | [],_=>by rw [List.map_nil,lD,eF]
 | x :: l,h=>by rw [List.map_cons,jY,eF,h x (List.mem_cons_self ..),yV l fun y hy=>h y (List.mem_cons_of_mem _ hy)]
theorem bI5(x:Ps):dE (te x)=x.dp:=by
 refine Ps.ind (P:=fun x=>dE (te x)=x.dp) (fun x ih=>?_) x
 cases x with
 | lf k n rs=>rw [te,dE,lD,Ps.dp]
 | grp n y=>rw [te,dE,jY,lD,ih y (by simp [Ps.kids]),Ps.dp];omega
 | rep a b y=>rw [te,dE,jY,lD,ih y (by simp [Ps.kids]),Ps.dp];omega
 | row l=>
  rw [te]
  split
  ·rename_i h
   rw [List.isEmpty_iff] at h
   subst h
   rw [dE,lD,Ps.dp,eF]
  ·rw [dE,gG,yV l (fun y hy=>ih y (by simpa [Ps.kids] using hy)),Ps.dp]
 | alt l=>rw [te,dE,gG,yV l (fun y hy=>ih y (by simpa [Ps.kids] using hy)),Ps.dp]
theorem aV7:∀ (m:Nat) (t:Tr) (W:World) (D:Nat),t.sz<=m->TA W t->D<=40->Calls Tryz.prog 43 #[.agg #[.int .i64 t.f.k,.int .i64 t.f.n,.int .i64 t.f.mn,.int .i64 t.f.mx,.slice t.f.rq t.f.rs.length t.f.rc,.slice t.f.kq t.f.kl t.f.kc],.int .i64 ((D:Int)+1)] W fun e w'=>e=.returned (.bool (decide (40 < D+dE (er t))))/\Below W.heap.size W w':=by
 intro m
 induction m with
 | zero=>intro t W D hm;exact absurd (jM t) (by omega)
 | succ m ih=>
  intro t W D hm hta hD
  have B0:Hid (Below W.heap.size W (W.alloc (.cells #[.int .i64 t.f.k,.int .i64 t.f.n,.int .i64 t.f.mn,.int .i64 t.f.mx,.slice t.f.rq t.f.rs.length t.f.rc,.slice t.f.kq t.f.kl t.f.kc] 28))):=bz9
  by_cases h40:D=40
  ·have e:decide (40 < D+dE (er t))=true:=decide_eq_true (by have:=bG2 (er t);omega)
   rw [e]
   have i40:(40:Int) < (D:Int)+1:=by omega
   clear ih hta e h40 hm hD
   go_enter Tryz.func43,Tryz.ntmps43
   go_wp2
   go_ret
   exact⟨rfl,B0.out⟩
  ·have i40:¬ (40:Int) < (D:Int)+1:=by omega
   have hw:IntKind.wrap .i64 ((D:Int)+1+1)=(D:Int)+1+1:=wrap_small _ (by omega) (by omega)
   have hkl:=hta.node.kl
   obtain⟨q,cap,e,hmx,-,hx⟩:=hta.node.k.slice
   injection e with e1 e2 e3
   have N1:Hid (BoxN (W.alloc (.cells #[.int .i64 t.f.k,.int .i64 t.f.n,.int .i64 t.f.mn,.int .i64 t.f.mx,.slice t.f.rq t.f.rs.length t.f.rc,.slice t.f.kq t.f.kl t.f.kc] 28)) W.heap.size t.f):=aG W _
   have HTA:=aC hta
   have HX:=aC (show ∀ (i:Nat) (u:Tr),t.ks[i]?=some u->∃ g off,t.f.kq=some ⟨g,off,none⟩/\g < W.heap.size/\Six W g (off+i * 6) u.f from fun i u hu=>by rw [e1];exact hx i u hu)
   have HM:=aC (show t.f.kl<=maxLen by rw [hkl];exact hmx)
   have HKL:=aC hkl
   have IH:Hid (∀ u∈t.ks,∀ W',TA W' u->Calls Tryz.prog 43 #[.agg #[.int .i64 u.f.k,.int .i64 u.f.n,.int .i64 u.f.mn,.int .i64 u.f.mx,.slice u.f.rq u.f.rs.length u.f.rc,.slice u.f.kq u.f.kl u.f.kc],.int .i64 ((D:Int)+1+1)] W' fun e w'=>e=.returned (.bool (decide (40 < D+1+dE (er u))))/\Below W'.heap.size W' w'):=fun u hu W' h'=>by
    have:=ih u W' (D+1) (by have:=gY hu;omega) h' (by omega)
    rwa [show (((D+1:Nat):Int)+1)=(D:Int)+1+1 by omega] at this
   have HD:=aC hD
   clear ih hta h40 hm hD hx e1 e2 e3 hmx hkl
   go_enter Tryz.func43,Tryz.ntmps43
   go_upto_region 4 with fail
   generalize W.alloc (.cells #[.int .i64 t.f.k,.int .i64 t.f.n,.int .i64 t.f.mn,.int .i64 t.f.mx,.slice t.f.rq t.f.rs.length t.f.rc,.slice t.f.kq t.f.kl t.f.kc] 28)=W1 at B0 N1 ⊢
   go_loopw [5] (fun i wr=>∃ j:Nat,j<=t.f.kl/\i=.int .i64 (j:Int)/\(∀ u∈t.ks.take j,¬ 40 < D+1+dE (er u))/\Below W1.heap.size W1 wr) (fun i _=>t.f.kl - (intOf i).toNat)
   case atStart=>exact⟨0,Nat.zero_le _,rfl,fun u hu=>(by simp at hu),Below.refl _ _⟩
   case round=>
    obtain⟨j,hj,rfl,hall,hb⟩:=hrel
    have HB:=aC hb
    have HA:=aC hall
    have hn:BoxN wr W.heap.size t.f:=(hb.block _ (aA N1.out)).trans N1.out
    have ln:=aA hn
    have n5:=hn.six.2.2.2.2.2
    have BW:=aC (aE B0.out hb lz9)
    clear hb hn hall
    by_cases hjl:j < t.f.kl
    ·have i0:(j:Int) < (t.f.kl:Int):=by omega
     obtain⟨u,hu⟩:∃ u,t.ks[j]?=some u:=⟨_,List.getElem?_eq_getElem (by rw [<- HKL.out];exact hjl)⟩
     have hin:u∈t.ks:=List.mem_of_getElem? hu
     obtain⟨g,off,hq,hg,hsix⟩:=HX.out j u hu
     obtain⟨c0,c1,c2,c3,c4,c5⟩:=hsix.ck (CK.of_below BW.out) hg
     have lg:=Nat.lt_of_lt_of_le hg BW.out.size
     rw [hq] at n5
     have CC:=aC (IH.out u hin wr ((HTA.out.kid hin).kept BW.out))
     have hmx:=HM.out
     unfold maxLen at hmx
     have HU:=aC hu
     clear hu hin hsix hg hq
     by_cases hd:40 < D+1+dE (er u)
     ·rw [decide_eq_true hd] at CC
      have RES:Hid (decide (40 < D+dE (er t))=true):=decide_eq_true (by rw [bC1];have:=bG1 (l:=t.ks.map er) (List.mem_map_of_mem (f:=er) (List.mem_of_getElem? HU.out));omega)
      clear hd
      go_wp2_with (go_at_call 43;(with_reducible refine(CC.out).mono ?_);rintro e w6 ⟨rfl,h1⟩;have B6:=aC h1;clear h1)
      go_ret
      exact⟨by rw [RES.out];rfl,aE BW.out B6.out lz9⟩
     ·rw [decide_eq_false hd] at CC
      have HN:=aC hd
      clear hd
      go_wp2_with (go_at_call 43;(with_reducible refine(CC.out).mono ?_);rintro e w6 ⟨rfl,h1⟩;have B6:=aC h1;clear h1)
      go_roundw
      case rel=>
       refine⟨j+1,by omega,by go_num,fun v hv=>?_,aE HB.out B6.out lz9⟩
       rw [List.take_add_one,HU.out] at hv
       rcases List.mem_append.1 hv with z | z
       ·exact HA.out v z
       ·simp at z;subst z;exact HN.out
      case measure=>simp only [intOf];omega
    ·have i0:¬ (j:Int) < (t.f.kl:Int):=by omega
     have RES:Hid (decide (40 < D+dE (er t))=false):=decide_eq_false (by
      rw [bC1]
      have hD:=HD.out
      have h2:dEs (t.ks.map er)<=40 - D - 1:=aZ3 fun x hx=>by
       obtain⟨u,hu,rfl⟩:=List.mem_map.1 hx
       have:=HA.out u (by rw [List.take_of_length_le (by rw [<- HKL.out];omega)];exact hu)
       omega
      have h3:t.ks=[]\/D+1<=40:=by
       by_cases z:t.ks=[]
       ·exact .inl z
       ·right;have:D≠40:=fun q=>by subst q;omega
        omega
      omega)
     go_wp2
     go_ret
     exact⟨by rw [RES.out];rfl,BW.out⟩
section
attribute [local go_sem] aR
def SX(w:World)(b:Nat)(s:ByteArray)(m:Md)(p:Nat)(tv:Value)(e a:Nat):Prop:=
 w.heap[b]?=some (.cells #[.string s,.bool m.c,.bool m.f,.int .i64 (p:Int),tv,.int .i64 (e:Int),.int .i64 (a:Int)] 139 (0,0))
section
variable {w w':World} {b:Nat} {s:ByteArray} {m:Md} {p:Nat} {tv:Value} {e a:Nat}
theorem SX.lt(h:SX w b s m p tv e a):b < w.heap.size:=aA h
theorem SX.kept(h:SX w b s m p tv e a)(hb:Below w.heap.size w w'):SX w' b s m p tv e a:=(hb.block b h.lt).trans h
theorem SX.fr{S:Nat->Prop}(h:SX w b s m p tv e a)(hb:Fr S w w')(hn:¬ S b):SX w' b s m p tv e a:=(hb.block b h.lt hn).trans h
theorem SX.c0(h:SX w b s m p tv e a):w.cell? ⟨b,0,none⟩=some (.string s):=aB h (i:=0) rfl
theorem SX.c1(h:SX w b s m p tv e a):w.cell? ⟨b,1,none⟩=some (.bool m.c):=aB h (i:=1) rfl
theorem SX.c2(h:SX w b s m p tv e a):w.cell? ⟨b,2,none⟩=some (.bool m.f):=aB h (i:=2) rfl
theorem SX.c3(h:SX w b s m p tv e a):w.cell? ⟨b,3,none⟩=some (.int .i64 (p:Int)):=aB h (i:=3) rfl
theorem SX.c4(h:SX w b s m p tv e a):w.cell? ⟨b,4,none⟩=some tv:=aB h (i:=4) rfl
theorem SX.c5(h:SX w b s m p tv e a):w.cell? ⟨b,5,none⟩=some (.int .i64 (e:Int)):=aB h (i:=5) rfl
theorem SX.c6(h:SX w b s m p tv e a):w.cell? ⟨b,6,none⟩=some (.int .i64 (a:Int)):=aB h (i:=6) rfl
theorem SX.frz(h:SX w b s m p tv e a)(i:Nat):w.frozen? ⟨b,i,none⟩=false:=aP h i
end
theorem dR{w:World}{b:Nat}{s:ByteArray}{m:Md}{p:Nat}{tv:Value}{a:Nat}(h:SX w b s m p tv 0 a)(x y:Nat) :
  Calls Tryz.prog 97 #[.pointer (some ⟨b,0,none⟩),.int .i64 (x:Int),.int .i64 (y:Int)] w fun r w'=>r=.returned (.tuple #[])/\SX w' b s m p tv x y/\Fr (At b) w w':=by
 have c5:w.cell? ⟨b,5,none⟩=some (.int .i64 0):=h.c5
 have lb:=h.lt
 have f5:=h.frz 5
 have f6:=(show SX (w.setCell ⟨b,5,none⟩ (.int .i64 (x:Int))) b s m p tv x a from aK h 5 _).frz 6
 have c6:=(show SX (w.setCell ⟨b,5,none⟩ (.int .i64 (x:Int))) b s m p tv x a from aK h 5 _).c6
 have H:Hid (SX ((w.setCell ⟨b,5,none⟩ (.int .i64 (x:Int))).setCell ⟨b,6,none⟩ (.int .i64 (y:Int))) b s m p tv x y):=aK (aK h 5 (.int .i64 (x:Int))) 6 (.int .i64 (y:Int))
 clear h
 go_enter Tryz.func97,Tryz.ntmps97
 go_wp2
 go_end0
 exact⟨rfl,H.out,Fr.setCell (S:=At b) (Fr.setCell (S:=At b) (Fr.refl _ _) (p:=⟨b,5,none⟩) rfl _) (p:=⟨b,6,none⟩) rfl _⟩
theorem aT9{w:World}{b:Nat}{s:ByteArray}{m:Md}{p:Nat}{tv:Value}{e a:Nat}(h:SX w b s m p tv e a)(he:e≠0)(x y:Int) :
  Calls Tryz.prog 97 #[.pointer (some ⟨b,0,none⟩),.int .i64 x,.int .i64 y] w fun r w'=>r=.returned (.tuple #[])/\w'=w:=by
 have c5:=h.c5
 have lb:=h.lt
 have d:¬ (e:Int)=0:=by omega
 have d2:((e:Int)==0)=false:=by simpa using d
 clear h
 go_enter Tryz.func97,Tryz.ntmps97
 go_wp2
 go_end0
 exact⟨rfl,rfl⟩
theorem aT8{s t:ByteArray}{p:Nat}:((s.extract p (p+t.size)).toList==t.toList)=aJ s p t.data.toList:=by
 rw [Lib.toList_data,Lib.toList_data,Bool.eq_iff_iff]
 unfold aJ Lib.hasPrefix
 rw [List.isPrefixOf_iff_prefix,beq_iff_eq]
 have e1:(s.extract p (p+t.size)).data.toList=(s.data.toList.drop p).take t.data.toList.length:=by
  rw [ByteArray.data_extract,Array.toList_extract,bN]
  simp [List.extract]
 rw [e1,List.prefix_iff_eq_take]
 exact eq_comm
theorem jO{s:ByteArray}{p:Nat}{t:List UInt8}(ht:t≠[])(h:¬ p+t.length<=s.size):aJ s p t=false:=by
 cases q:aJ s p t with
 | false=>rfl
 | true=>exact absurd (bE q ht) h
theorem rI{w:World}{b:Nat}{s:ByteArray}{m:Md}{p:Nat}{tv:Value}{e a:Nat}(h:SX w b s m p tv e a)(hs:s.size<=2000)(k:Nat)(hk:k<=5000)(t:ByteArray)(ht:0 < t.size)(ht2:t.size<=2) :
  Calls Tryz.prog 96 #[.pointer (some ⟨b,0,none⟩),.int .i64 (k:Int),.string t] w fun r w'=>r=.returned (.bool (aJ s k t.data.toList))/\Below w.heap.size w w':=by
 have c0:=h.c0
 have lb:=h.lt
 have hl:t.data.toList.length=t.size:=bN t
 have hne:t.data.toList≠[]:=fun q=>by rw [q] at hl;simp at hl;omega
 have k0:(0:Int)<=(k:Int):=by omega
 have w2:IntKind.wrap .i64 ((k:Int)+(t.size:Int))=(k:Int)+(t.size:Int):=wrap_small _ (by omega) (by omega)
 clear h
 by_cases h1:k<=s.size
 ·have k1:(k:Int)<=(s.size:Int):=by omega
  have w1:IntKind.wrap .i64 ((s.size:Int) - (k:Int))=(s.size:Int) - (k:Int):=wrap_small _ (by omega) (by omega)
  by_cases h2:t.size<=s.size - k
  ·have k2:(t.size:Int)<=(s.size:Int) - (k:Int):=by omega
   have E:Hid (((s.extract k (k+t.size)).toList==t.toList)=aJ s k t.data.toList):=aT8
   have k3:(k:Int)<=(k:Int)+(t.size:Int):=by omega
   have k4:(k:Int)+(t.size:Int)<=(s.size:Int):=by omega
   have k5:((k:Int)+(t.size:Int)).toNat=k+t.size:=by omega
   go_enter Tryz.func96,Tryz.ntmps96
   go_wp2
   go_ret
   exact⟨by rw [<- E.out];rfl,Below.refl _ _⟩
  ·have k2:¬ (t.size:Int)<=(s.size:Int) - (k:Int):=by omega
   have E:=jO (s:=s) (p:=k) hne (by rw [hl];omega)
   rw [E]
   clear E
   go_enter Tryz.func96,Tryz.ntmps96
   go_wp2
   go_ret
   exact⟨rfl,Below.refl _ _⟩
 ·have k1:¬ (k:Int)<=(s.size:Int):=by omega
  have E:=jO (s:=s) (p:=k) hne (by rw [hl];omega)
  rw [E]
  clear E
  go_enter Tryz.func96,Tryz.ntmps96
  go_wp2
  go_ret
  exact⟨rfl,Below.refl _ _⟩
def opn(last:Nat):Bool:=last==0 || last==3 || last==5
theorem bG{w:World}{b:Nat}{s:ByteArray}{m:Md}{p:Nat}{tv:Value}{last:Nat}{x a:Nat}(h:SX w b s m p tv x a)(hk:LK w b tv last) :
  Calls Tryz.prog 94 #[.pointer (some ⟨b,0,none⟩)] w fun e w'=>e=.returned (.bool (cS last))/\Below w.heap.size w w':=by
 have c4:=h.c4
 have lb:=h.lt
 clear h
 rcases hk with⟨rfl,rfl⟩ | ⟨g,n,c,rfl,h2,h3,h4,h5,h6⟩
 ·go_enter Tryz.func94,Tryz.ntmps94
  go_wp2
  go_ret
  exact⟨rfl,Below.refl _ _⟩
 ·have hw1:IntKind.wrap .i64 (((n+1:Nat):Int) - 1)=(n:Int):=by rw [wrap_small _ (by omega) (by omega)];omega
  have i0:(0:Int)<=(n:Int):=by omega
  have i1:(n:Int) < ((n+1:Nat):Int):=by omega
  have i2:¬ (n:Int) < 0:=by omega
  by_cases a3:last=3
  ·subst a3
   go_enter Tryz.func94,Tryz.ntmps94
   go_wp2
   go_ret
   exact⟨rfl,Below.refl _ _⟩
  by_cases a5:last=5
  ·subst a5
   go_enter Tryz.func94,Tryz.ntmps94
   go_wp2
   go_ret
   exact⟨rfl,Below.refl _ _⟩
  have e3:((last:Int)==3)=false:=by simp;omega
  have e5:((last:Int)==5)=false:=by simp;omega
  have e7:Hid (((last:Int)==7)=cS last):=by
   show ((last:Int)==7)=cS last
   unfold cS
   rw [Bool.eq_iff_iff]
   simp
   omega
  go_enter Tryz.func94,Tryz.ntmps94
  go_wp2
  go_ret
  exact⟨by rw [<- e7.out];rfl,Below.refl _ _⟩
theorem dN{w:World}{b:Nat}{s:ByteArray}{m:Md}{p:Nat}{tv:Value}{last:Nat}{x a:Nat}(h:SX w b s m p tv x a)(hk:LK w b tv last) :
  Calls Tryz.prog 95 #[.pointer (some ⟨b,0,none⟩)] w fun e w'=>e=.returned (.bool (opn last))/\Below w.heap.size w w':=by
 have c4:=h.c4
 have lb:=h.lt
 clear h
 rcases hk with⟨rfl,rfl⟩ | ⟨g,n,c,rfl,h2,h3,h4,h5,h6⟩
 ·go_enter Tryz.func95,Tryz.ntmps95
  go_wp2
  go_ret
  exact⟨rfl,Below.refl _ _⟩
 ·have hw1:IntKind.wrap .i64 (((n+1:Nat):Int) - 1)=(n:Int):=by rw [wrap_small _ (by omega) (by omega)];omega
  have i0:(0:Int)<=(n:Int):=by omega
  have i1:(n:Int) < ((n+1:Nat):Int):=by omega
  have i2:¬ (n:Int) < 0:=by omega
  by_cases a3:last=3
  ·subst a3
   go_enter Tryz.func95,Tryz.ntmps95
   go_wp2
   go_ret
   exact⟨rfl,Below.refl _ _⟩
  have e3:((last:Int)==3)=false:=by simp;omega
  have e7:Hid (((last:Int)==5)=opn last):=by
   show ((last:Int)==5)=opn last
   unfold opn
   rw [Bool.eq_iff_iff]
   simp
   omega
  go_enter Tryz.func95,Tryz.ntmps95
  go_wp2
  go_ret
  exact⟨by rw [<- e7.out];rfl,Below.refl _ _⟩
end
def isC(c:Int):Bool:=decide (0<=c/\c<=1114111/\(c < 55296\/57343 < c))
def txt(l:List UInt8):ByteArray:=⟨l.toArray⟩
def sl(s:ByteArray)(p n:Nat):List UInt8:=(s.data.toList.drop p).take n
theorem bI4(s:ByteArray)(p:Nat):Lib.decodeL (s.data.toList.drop p)=Utf8.decode s p:=by
 rw [Lib.decodeL_N,Lib.decode_N,List.length_drop]
 simp only [List.getD_eq_getElem?_getD,List.getElem?_drop,Nat.add_zero]
theorem yS(s:ByteArray)(p:Nat)(hp:p < s.size)(hb:bad s p=false):Lib.encodeRune ((Utf8.decode s p).1:Int)=sl s p (wd s p):=by
 have hne:s.data.toList.drop p≠[]:=by
  intro e
  have:=congrArg List.length e
  rw [List.length_drop,bN] at this
  simp at this;omega
 have:=Lib.encode_decode (s.data.toList.drop p) hne (by
  rw [bI4]
  rintro ⟨h1,h2⟩
  have:bad s p=true:=by
   unfold bad
   rw [decide_eq_true_eq]
   exact Prod.ext h1 h2
  rw [hb] at this;cases this)
 rw [bI4] at this
 exact this
theorem bF8(s:ByteArray)(p n:Nat):(s.extract p (p+n)).data.toList=sl s p n:=by
 rw [ByteArray.data_extract,Array.toList_extract,List.extract_eq_take_drop]
 unfold sl
 congr 1
 omega
theorem tO(s:ByteArray)(i:Nat)(h:i < s.size):(s[i]'h).toNat=bt s i:=by
 have e:s.data.toList[i]?=some (s.data.toList[i]'(by rw [bN];exact h)):=List.getElem?_eq_getElem _
 unfold bt
 rw [List.getD_eq_getElem?_getD,e]
 rfl
theorem fP{s:ByteArray}{p:Nat}(hb:bad s p=false):(bt s p < 128/\Utf8.decode s p=(bt s p,1)) \/
  (1 < s.size - p/\bt s p / 32=6/\bt s (p+1) / 64=2/\128<=bt s p % 32 * 64+bt s (p+1) % 64/\Utf8.decode s p=(bt s p % 32 * 64+bt s (p+1) % 64,2)) \/
  (2 < s.size - p/\bt s p / 16=14/\bt s (p+1) / 64=2/\bt s (p+2) / 64=2/\2048<=bt s p % 16 * 4096+bt s (p+1) % 64 * 64+bt s (p+2) % 64/\Utf8.decode s p=(bt s p % 16 * 4096+bt s (p+1) % 64 * 64+bt s (p+2) % 64,3)) \/
  (3 < s.size - p/\bt s p / 8=30/\bt s (p+1) / 64=2/\bt s (p+2) / 64=2/\bt s (p+3) / 64=2/\65536<=bt s p % 8 * 262144+bt s (p+1) % 64 * 4096+bt s (p+2) % 64 * 64+bt s (p+3) % 64/\Utf8.decode s p=(bt s p % 8 * 262144+bt s (p+1) % 64 * 4096+bt s (p+2) % 64 * 64+bt s (p+3) % 64,4)):=by
 have hn:Utf8.decode s p≠(65533,1):=by simpa [bad] using hb
 have e:=gD s p
 rcases fQ (s.size - p) (bt s p) (bt s (p+1)) (bt s (p+2)) (bt s (p+3)) with k | ⟨a1,k⟩ | ⟨a1,a2,a3,a4,k⟩ | ⟨a1,a2,a3,a4,a5,a6,k⟩ | ⟨a1,a2,a3,a4,a5,a6,a7,k⟩
 ·rw [k] at e;exact absurd e hn
 ·rw [k] at e;exact .inl ⟨a1,e⟩
 ·rw [k] at e;exact .inr (.inl ⟨a1,a2,a3,a4,e⟩)
 ·rw [k] at e;exact .inr (.inr (.inl ⟨a1,a2,a3,a4,a5,e⟩))
 ·rw [k] at e;exact .inr (.inr (.inr ⟨a1,a2,a3,a4,a5,a6,e⟩))
def aH8(b0 n:Nat)(c0:Int):Prop:=(n=2/\192<=b0/\b0 < 224/\c0=b0 - 192)\/(n=3/\224<=b0/\b0 < 240/\c0=b0 - 224)\/(n=4/\240<=b0/\b0 < 248/\c0=b0 - 240)
def cvF(s:ByteArray)(p:Nat)(c0:Int):Nat->Int
 | 0=>c0
 | j+1=>64 * cvF s p c0 j+bt s (p+(j+1)) - 128
def oI(s:ByteArray)(p k:Nat):Prop:=∀ j,1<=j->j < k->128<=bt s (p+j)/\bt s (p+j)<=191
theorem nT{s:ByteArray}{p:Nat}{c0:Int}(h0:0<=c0)(h1:c0<=31):∀ j,j<=3->oI s p (j+1)->0<=cvF s p c0 j/\cvF s p c0 j < 16777216
 | 0,_,_=>by simp [cvF];omega
 | 1,_,hc=>by have c1:=hc 1 (by omega) (by omega);simp only [cvF,Nat.zero_add];omega
 | 2,_,hc=>by have c1:=hc 1 (by omega) (by omega);have c2:=hc 2 (by omega) (by omega);simp only [cvF,Nat.zero_add,Nat.reduceAdd];omega
 | 3,_,hc=>by have c1:=hc 1 (by omega) (by omega);have c2:=hc 2 (by omega) (by omega);have c3:=hc 3 (by omega) (by omega);simp only [cvF,Nat.zero_add,Nat.reduceAdd];omega
theorem aR3{s:ByteArray}{p:Nat}(h:(128<=bt s p/\bt s p < 192)\/248<=bt s p):bad s p=true:=by
 rcases hb:bad s p with _ | _
 ·exfalso
  have:=fW s p
  rcases fP hb with⟨a1,_⟩ | ⟨_,a2,_⟩ | ⟨_,a2,_⟩ | ⟨_,a2,_⟩ <;> omega
 ·rfl
theorem nX{s:ByteArray}{p n:Nat}{c0:Int}(h:aH8 (bt s p) n c0)(hn:s.size - p < n):bad s p=true:=by
 rcases hb:bad s p with _ | _
 ·exfalso
  rcases h with h | h | h <;> rcases fP hb with⟨a1,_⟩ | ⟨_,a2,_⟩ | ⟨_,a2,_⟩ | ⟨_,a2,_⟩ <;> omega
 ·rfl
theorem iV{s:ByteArray}{p n j:Nat}{c0:Int}(h:aH8 (bt s p) n c0)(h1:1<=j)(hj:j < n)(hb':bt s (p+j) < 128\/191 < bt s (p+j)):bad s p=true:=by
 rcases hb:bad s p with _ | _
 ·exfalso
  have hj':j=1\/j=2\/j=3:=by rcases h with h | h | h <;> omega
  rcases hj' with rfl | rfl | rfl <;> rcases h with h | h | h <;> rcases fP hb with⟨a1,_⟩ | ⟨_,a2,a3,_⟩ | ⟨_,a2,a3,a4,_⟩ | ⟨_,a2,a3,a4,a5,_⟩ <;> omega
 ·rfl
theorem iQ{s:ByteArray}{p n:Nat}{c0:Int}(h:aH8 (bt s p) n c0)(hc:oI s p n)(hb:bad s p=false):(Utf8.decode s p).1=cvF s p c0 (n - 1)/\wd s p=n:=by
 unfold wd
 rcases h with⟨rfl,h⟩ | ⟨rfl,h⟩ | ⟨rfl,h⟩
 ·have c1:=hc 1 (by omega) (by omega)
  rcases fP hb with⟨a1,e⟩ | ⟨_,a2,a3,_,e⟩ | ⟨_,a2,a3,a4,_,e⟩ | ⟨_,a2,a3,a4,a5,_,e⟩
  ·omega
  ·have e2:cvF s p c0 (2 - 1)=64 * c0+bt s (p+1) - 128:=rfl
   rw [e,e2]
   refine⟨?_,rfl⟩
   simp only
   omega
  ·omega
  ·omega
 ·have c1:=hc 1 (by omega) (by omega)
  have c2:=hc 2 (by omega) (by omega)
  rcases fP hb with⟨a1,e⟩ | ⟨_,a2,a3,_,e⟩ | ⟨_,a2,a3,a4,_,e⟩ | ⟨_,a2,a3,a4,a5,_,e⟩
  ·omega
  ·omega
  ·have e2:cvF s p c0 (3 - 1)=64 * (64 * c0+bt s (p+1) - 128)+bt s (p+2) - 128:=rfl
   rw [e,e2]
   refine⟨?_,rfl⟩
   simp only
   omega
  ·omega
 ·have c1:=hc 1 (by omega) (by omega)
  have c2:=hc 2 (by omega) (by omega)
  have c3:=hc 3 (by omega) (by omega)
  rcases fP hb with⟨a1,e⟩ | ⟨_,a2,a3,_,e⟩ | ⟨_,a2,a3,a4,_,e⟩ | ⟨_,a2,a3,a4,a5,_,e⟩
  ·omega
  ·omega
  ·omega
  ·have e2:cvF s p c0 (4 - 1)=64 * (64 * (64 * c0+bt s (p+1) - 128)+bt s (p+2) - 128)+bt s (p+3) - 128:=rfl
   rw [e,e2]
   refine⟨?_,rfl⟩
   simp only
   omega
theorem lL{s:ByteArray}{p n i:Nat}{l:List UInt8}(h:sl s p n=l)(hi:i < l.length):bt s (p+i)=(l[i]).toNat/\i < s.size - p:=by
 have hl:i < ((s.data.toList.drop p).take n).length:=by rw [show (s.data.toList.drop p).take n=l from h];exact hi
 have hl':=hl
 rw [List.length_take,List.length_drop,bN] at hl'
 have e:l[i]?=s.data.toList[p+i]?:=by
  rw [<- h,sl,List.getElem?_take_of_lt (by omega),List.getElem?_drop]
 rw [List.getElem?_eq_getElem hi] at e
 refine⟨?_,by omega⟩
 unfold bt
 rw [List.getD_eq_getElem?_getD,<- e]
 rfl
theorem lU{s:ByteArray}{p:Nat}{c:Int}(hc:0<=c/\c<=1114111/\(c < 55296\/57343 < c))(h:sl s p (Lib.encodeRune c).length=Lib.encodeRune c):((Utf8.decode s p).1:Int)=c/\wd s p=(Lib.encodeRune c).length/\bad s p=false:=by
 obtain⟨r0,r1,r2⟩:=hc
 have key:∀ (m:Nat),Utf8.decode s p=(c.toNat,m)->(c.toNat,m)≠((65533,1):Nat × Nat)->((Utf8.decode s p).1:Int)=c/\wd s p=m/\bad s p=false:=fun m e hne=>by
  refine⟨by rw [e];simp only;omega,by unfold wd;rw [e],?_⟩
  unfold bad
  rw [e]
  simpa using hne
 by_cases h1:c<=127
 ·have hE:Lib.encodeRune c=[c].map fun x=>x.toNat.toUInt8:=by rw [Lib.encodeRune,Lib.encodeRuneZ_one r0 h1]
  rw [hE] at h ⊢
  obtain⟨b0,s0⟩:=lL h (i:=0) (by simp)
  simp at b0
  refine key 1 ?_ (by simp;omega)
  rw [gD]
  have:bt s p=c.toNat:=by omega
  rw [this]
  unfold Lib.decodeN
  rw [if_pos (by omega)]
 by_cases h2:c<=2047
 ·have hE:Lib.encodeRune c=[192+c / 64,128+c % 64].map fun x=>x.toNat.toUInt8:=by rw [Lib.encodeRune,Lib.encodeRuneZ_two (by omega) h2]
  rw [hE] at h ⊢
  obtain⟨b0,s0⟩:=lL h (i:=0) (by simp)
  obtain⟨b1,s1⟩:=lL h (i:=1) (by simp)
  simp at b0 b1
  refine key 2 ?_ (by simp)
  rw [gD]
  have e0:bt s p=192+c.toNat / 64:=by omega
  have e1:bt s (p+1)=128+c.toNat % 64:=by omega
  have hl:c.toNat<=2047:=by omega
  have hg:128<=c.toNat:=by omega
  rw [e0,e1]
  generalize c.toNat=m at *
  unfold Lib.decodeN
  rw [if_neg (by omega),if_pos (by omega),if_pos (by omega)]
  apply Prod.ext <;> simp only <;> omega
 by_cases h3:c<=65535
 ·have hE:Lib.encodeRune c=[224+c / 4096,128+c / 64 % 64,128+c % 64].map fun x=>x.toNat.toUInt8:=by rw [Lib.encodeRune,Lib.encodeRuneZ_three (by omega)]
  rw [hE] at h ⊢
  obtain⟨b0,s0⟩:=lL h (i:=0) (by simp)
  obtain⟨b1,s1⟩:=lL h (i:=1) (by simp)
  obtain⟨b2,s2⟩:=lL h (i:=2) (by simp)
  simp at b0 b1 b2
  refine key 3 ?_ (by simp)
  rw [gD]
  have e0:bt s p=224+c.toNat / 4096:=by omega
  have e1:bt s (p+1)=128+c.toNat / 64 % 64:=by omega
  have e2:bt s (p+2)=128+c.toNat % 64:=by omega
  have hl:c.toNat<=65535:=by omega
  have hg:2048<=c.toNat:=by omega
  have hv:c.toNat < 55296\/57344<=c.toNat:=by omega
  rw [e0,e1,e2]
  generalize c.toNat=m at *
  unfold Lib.decodeN
  rw [if_neg (by omega),if_neg (by omega),if_pos (by omega),if_pos (by omega)]
  apply Prod.ext <;> simp only <;> omega
 ·have hE:Lib.encodeRune c=[240+c / 262144,128+c / 4096 % 64,128+c / 64 % 64,128+c % 64].map fun x=>x.toNat.toUInt8:=by rw [Lib.encodeRune,Lib.encodeRuneZ_four (by omega) (by omega)]
  rw [hE] at h ⊢
  obtain⟨b0,s0⟩:=lL h (i:=0) (by simp)
  obtain⟨b1,s1⟩:=lL h (i:=1) (by simp)
  obtain⟨b2,s2⟩:=lL h (i:=2) (by simp)
  obtain⟨b3,s3⟩:=lL h (i:=3) (by simp)
  simp at b0 b1 b2 b3
  refine key 4 ?_ (by simp)
  rw [gD]
  have e0:bt s p=240+c.toNat / 262144:=by omega
  have e1:bt s (p+1)=128+c.toNat / 4096 % 64:=by omega
  have e2:bt s (p+2)=128+c.toNat / 64 % 64:=by omega
  have e3:bt s (p+3)=128+c.toNat % 64:=by omega
  have hl:c.toNat<=1114111:=by omega
  have hg:65536<=c.toNat:=by omega
  rw [e0,e1,e2,e3]
  generalize c.toNat=m at *
  unfold Lib.decodeN
  rw [if_neg (by omega),if_neg (by omega),if_neg (by omega),if_pos (by omega),if_pos (by omega)]
  apply Prod.ext <;> simp only <;> omega
theorem nS(s:ByteArray)(p:Nat):Lib.validRune ((Utf8.decode s p).1:Int)=true:=by
 have q0:=fW s p
 rw [gD]
 unfold Lib.validRune
 rw [decide_eq_true_eq]
 rcases fQ (s.size - p) (bt s p) (bt s (p+1)) (bt s (p+2)) (bt s (p+3)) with k | ⟨_,k⟩ | ⟨_,_,_,_,k⟩ | ⟨_,_,_,_,_,_,k⟩ | ⟨_,_,_,_,_,_,_,k⟩
 all_goals (rw [k];simp only;omega)
section
attribute [local go_sem] aR
theorem aM5(c:Int)(w:World):Calls Tryz.prog 139 #[.int .i64 c] w fun e w'=>e=.returned (.bool (isC c))/\w'=w:=by
 by_cases h0:0<=c
 ·by_cases h1:c<=1114111
  ·by_cases h2:c < 55296
   ·have hv:Hid (isC c=true):=by show isC c=true;simp [isC];omega
    go_enter Tryz.func139,Tryz.ntmps139
    go_wp2
    go_ret
    exact⟨by rw [hv.out];rfl,rfl⟩
   ·by_cases h3:57343 < c
    ·have hv:Hid (isC c=true):=by show isC c=true;simp [isC];omega
     go_enter Tryz.func139,Tryz.ntmps139
     go_wp2
     go_ret
     exact⟨by rw [hv.out];rfl,rfl⟩
    ·have hv:Hid (isC c=false):=by show isC c=false;simp [isC];omega
     go_enter Tryz.func139,Tryz.ntmps139
     go_wp2
     go_ret
     exact⟨by rw [hv.out];rfl,rfl⟩
  ·have hv:Hid (isC c=false):=by show isC c=false;simp [isC];omega
   go_enter Tryz.func139,Tryz.ntmps139
   go_wp2
   go_ret
   exact⟨by rw [hv.out];rfl,rfl⟩
 ·have hv:Hid (isC c=false):=by show isC c=false;simp [isC];omega
  go_enter Tryz.func139,Tryz.ntmps139
  go_wp2
  go_ret
  exact⟨by rw [hv.out];rfl,rfl⟩
theorem mX(w:World)(l:List Int)(hl:∀ x∈l,0<=x/\x < 256) :
  (convert 190 9 (.slice (some ⟨w.heap.size,0,none⟩) l.length l.length)).run Tryz.prog (w.alloc (.cells (l.map (Value.int .u8)).toArray 5))=.ok (.string (txt (l.map fun x=>x.toNat.toUInt8))) (w.alloc (.cells (l.map (Value.int .u8)).toArray 5)):=by
 have:=run_convert_bytes_back (P:=Tryz.prog) (w.alloc (.cells (l.map (Value.int .u8)).toArray 5)) 190 9 5 ⟨w.heap.size,0,none⟩ l.length (l.map fun x=>x.toNat.toUInt8) Tryz.underlying190 Tryz.underlying5 Tryz.underlying9 (fun j hj=>by
  have hj':j < l.length:=by simpa using hj
  have e:(⟨w.heap.size,0,none⟩:Addr).add j=⟨w.heap.size,j,none⟩:=by unfold Addr.add;simp;omega
  rw [e]
  refine(aB (aG w _) (i:=j) (v:=.int .u8 l[j]) (by simp [hj'])).trans ?_
  have:=hl l[j] (List.getElem_mem hj')
  simp
  omega)
 rw [List.length_map] at this
 exact this
theorem sZ(c:Int)(w:World)(hc:isC c=true):Calls Tryz.prog 140 #[.int .i64 c] w fun e w'=>e=.returned (.string (txt (Lib.encodeRune c)))/\Below w.heap.size w w':=by
 have hr:0<=c/\c<=1114111/\(c < 55296\/57343 < c):=by simpa [isC] using hc
 obtain⟨r0,r1,r2⟩:=hr
 clear hc
 by_cases h1:c < 128
 ·have hE:Hid (Lib.encodeRune c=[c].map fun x=>x.toNat.toUInt8):=by show Lib.encodeRune c=_;rw [Lib.encodeRune,Lib.encodeRuneZ_one r0 (by omega)]
  have hcv:=mX w [c] (by simp;omega)
  have w1:IntKind.wrap .u8 c=c:=by rw [IntKind.wrap_u8];omega
  simp only [List.map_cons,List.map_nil,List.length_cons,List.length_nil] at hcv hE
  clear r2
  go_enter Tryz.func140,Tryz.ntmps140
  go_wp2
  go_ret
  rw [hE.out]
  exact⟨rfl,(Below.refl _ w).alloc lz9 _⟩
 by_cases h2:c < 2048
 ·have hE:Hid (Lib.encodeRune c=[192+c / 64,128+c % 64].map fun x=>x.toNat.toUInt8):=by show Lib.encodeRune c=_;rw [Lib.encodeRune,Lib.encodeRuneZ_two (by omega) (by omega)]
  have hcv:=mX w [192+c / 64,128+c % 64] (by simp;omega)
  have q1:c.tdiv 64=c / 64:=Int.tdiv_eq_ediv_of_nonneg r0
  have q2:c.tmod 64=c % 64:=Int.tmod_eq_emod_of_nonneg r0
  have v1:IntKind.wrap .i64 (c / 64)=c / 64:=wrap_small _ (by omega) (by omega)
  have v2:IntKind.wrap .i64 (192+c / 64)=192+c / 64:=wrap_small _ (by omega) (by omega)
  have v3:IntKind.wrap .u8 (192+c / 64)=192+c / 64:=by rw [IntKind.wrap_u8];omega
  have v4:IntKind.wrap .i64 (c % 64)=c % 64:=wrap_small _ (by omega) (by omega)
  have v5:IntKind.wrap .i64 (128+c % 64)=128+c % 64:=wrap_small _ (by omega) (by omega)
  have v6:IntKind.wrap .u8 (128+c % 64)=128+c % 64:=by rw [IntKind.wrap_u8];omega
  simp only [List.map_cons,List.map_nil,List.length_cons,List.length_nil] at hcv hE
  clear r2
  go_enter Tryz.func140,Tryz.ntmps140
  go_wp2
  go_ret
  rw [hE.out]
  exact⟨rfl,(Below.refl _ w).alloc lz9 _⟩
 have v4:IntKind.wrap .i64 (c % 64)=c % 64:=wrap_small _ (by omega) (by omega)
 have v5:IntKind.wrap .i64 (128+c % 64)=128+c % 64:=wrap_small _ (by omega) (by omega)
 have v6:IntKind.wrap .u8 (128+c % 64)=128+c % 64:=by rw [IntKind.wrap_u8];omega
 have q1:c.tdiv 64=c / 64:=Int.tdiv_eq_ediv_of_nonneg r0
 have q2:c.tmod 64=c % 64:=Int.tmod_eq_emod_of_nonneg r0
 have q3:c.tdiv 4096=c / 4096:=Int.tdiv_eq_ediv_of_nonneg r0
 have q4:(c / 64).tmod 64=c / 64 % 64:=Int.tmod_eq_emod_of_nonneg (by omega)
 have u1:IntKind.wrap .i64 (c / 64)=c / 64:=wrap_small _ (by omega) (by omega)
 have u2:IntKind.wrap .i64 (c / 4096)=c / 4096:=wrap_small _ (by omega) (by omega)
 have u3:IntKind.wrap .i64 (c / 64 % 64)=c / 64 % 64:=wrap_small _ (by omega) (by omega)
 have u4:IntKind.wrap .i64 (128+c / 64 % 64)=128+c / 64 % 64:=wrap_small _ (by omega) (by omega)
 have u5:IntKind.wrap .u8 (128+c / 64 % 64)=128+c / 64 % 64:=by rw [IntKind.wrap_u8];omega
 by_cases h3:c < 65536
 ·have hE:Hid (Lib.encodeRune c=[224+c / 4096,128+c / 64 % 64,128+c % 64].map fun x=>x.toNat.toUInt8):=by show Lib.encodeRune c=_;rw [Lib.encodeRune,Lib.encodeRuneZ_three (by omega)]
  have hcv:=mX w [224+c / 4096,128+c / 64 % 64,128+c % 64] (by simp;omega)
  have u6:IntKind.wrap .i64 (224+c / 4096)=224+c / 4096:=wrap_small _ (by omega) (by omega)
  have u7:IntKind.wrap .u8 (224+c / 4096)=224+c / 4096:=by rw [IntKind.wrap_u8];omega
  simp only [List.map_cons,List.map_nil,List.length_cons,List.length_nil] at hcv hE
  clear r2
  go_enter Tryz.func140,Tryz.ntmps140
  go_wp2
  go_ret
  rw [hE.out]
  exact⟨rfl,(Below.refl _ w).alloc lz9 _⟩
 ·have hE:Hid (Lib.encodeRune c=[240+c / 262144,128+c / 4096 % 64,128+c / 64 % 64,128+c % 64].map fun x=>x.toNat.toUInt8):=by show Lib.encodeRune c=_;rw [Lib.encodeRune,Lib.encodeRuneZ_four (by omega) (by omega)]
  have hcv:=mX w [240+c / 262144,128+c / 4096 % 64,128+c / 64 % 64,128+c % 64] (by simp;omega)
  have q5:c.tdiv 262144=c / 262144:=Int.tdiv_eq_ediv_of_nonneg r0
  have q6:(c / 4096).tmod 64=c / 4096 % 64:=Int.tmod_eq_emod_of_nonneg (by omega)
  have u6:IntKind.wrap .i64 (c / 262144)=c / 262144:=wrap_small _ (by omega) (by omega)
  have u7:IntKind.wrap .i64 (240+c / 262144)=240+c / 262144:=wrap_small _ (by omega) (by omega)
  have u8:IntKind.wrap .u8 (240+c / 262144)=240+c / 262144:=by rw [IntKind.wrap_u8];omega
  have u9:IntKind.wrap .i64 (c / 4096 % 64)=c / 4096 % 64:=wrap_small _ (by omega) (by omega)
  have u10:IntKind.wrap .i64 (128+c / 4096 % 64)=128+c / 4096 % 64:=wrap_small _ (by omega) (by omega)
  have u11:IntKind.wrap .u8 (128+c / 4096 % 64)=128+c / 4096 % 64:=by rw [IntKind.wrap_u8];omega
  simp only [List.map_cons,List.map_nil,List.length_cons,List.length_nil] at hcv hE
  clear r2
  go_enter Tryz.func140,Tryz.ntmps140
  go_wp2
  go_ret
  rw [hE.out]
  exact⟨rfl,(Below.refl _ w).alloc lz9 _⟩
end
section
attribute [local go_sem] aR
theorem cJ{s:ByteArray}{p:Nat}(h:bad s p=true):ch s p=-1/\wd s p=1:=⟨(yW h).1,(yW h).2.1⟩
theorem lS(s:ByteArray)(p n:Nat):(s.extract p (p+n)).toList=sl s p n:=by rw [Lib.toList_data,bF8]
theorem aV9(s:ByteArray)(p:Nat)(w:World)(hp:p < s.size)(hs:s.size<=1099511627776) :
  Calls Tryz.prog 120 #[.string s,.int .i64 (p:Int)] w fun e w'=>e=.returned (.tuple #[.int .i64 (ch s p),.int .i64 (wd s p:Int)])/\Below w.heap.size w w':=by
 have h0:¬ (p:Int) < 0:=by omega
 have h1:¬ (s.size:Int)<=(p:Int):=by omega
 have h2:(0:Int)<=(p:Int):=by omega
 have h3:(p:Int) < (s.size:Int):=by omega
 have g0:=tO s p hp
 obtain⟨b0,hb0⟩:∃ b,bt s p=b:=⟨_,rfl⟩
 have hbl:=fW s p
 rw [hb0] at g0 hbl
 have wb:IntKind.wrap .i64 (b0:Int)=(b0:Int):=wrap_small _ (by omega) (by omega)
 have HB:Hid (bt s p=b0):=hb0
 clear hb0
 by_cases k1:(b0:Int) < 128
 ·have E:Hid (ch s p=(b0:Int)/\wd s p=1):=by
   show ch s p=(b0:Int)/\wd s p=1
   have e:Utf8.decode s p=(b0,1):=by
    rw [gD,HB.out]
    unfold Lib.decodeN
    rw [if_pos (by omega)]
   have hb:bad s p=false:=by unfold bad;rw [e];simp;omega
   exact⟨by rw [mY hb,e],by unfold wd;rw [e]⟩
  go_enter Tryz.func120,Tryz.ntmps120
  go_wp2
  go_ret2
  rw [E.out.1,E.out.2]
  exact⟨rfl,Below.refl _ _⟩
 by_cases k2:¬ ((192:Int)<=(b0:Int)/\(b0:Int) < 248)
 ·have E:Hid (ch s p=-1/\wd s p=1):=cJ (aR3 (by rw [HB.out];omega))
  have k5:¬ ((192:Int)<=(b0:Int)/\(b0:Int) < 224):=by omega
  have k6:¬ ((224:Int)<=(b0:Int)/\(b0:Int) < 240):=by omega
  have k7:¬ ((240:Int)<=(b0:Int)/\(b0:Int) < 248):=by omega
  by_cases k3:(b0:Int) < 192
  ·have k4:¬ (192:Int)<=(b0:Int):=by omega
   have k8:¬ (224:Int)<=(b0:Int):=by omega
   have k9:¬ (240:Int)<=(b0:Int):=by omega
   clear k2 k5 k6 k7
   go_enter Tryz.func120,Tryz.ntmps120
   go_wp2
   go_ret2
   rw [E.out.1,E.out.2]
   exact⟨rfl,Below.refl _ _⟩
  ·have j1:(192:Int)<=(b0:Int):=by omega
   have j2:(224:Int)<=(b0:Int):=by omega
   have j3:(240:Int)<=(b0:Int):=by omega
   have j4:¬ (b0:Int) < 224:=by omega
   have j5:¬ (b0:Int) < 240:=by omega
   have j6:¬ (b0:Int) < 248:=by omega
   clear k2 k5 k6 k7
   go_enter Tryz.func120,Tryz.ntmps120
   go_wp2
   go_ret2
   rw [E.out.1,E.out.2]
   exact⟨rfl,Below.refl _ _⟩
 -- a leading byte
 obtain⟨n,c0,hLd⟩:∃ n c0,aH8 b0 n c0:=by
  by_cases q1:b0 < 224
  ·exact⟨2,_,.inl ⟨rfl,by omega,q1,rfl⟩⟩
  by_cases q2:b0 < 240
  ·exact⟨3,_,.inr (.inl ⟨rfl,by omega,q2,rfl⟩)⟩
  ·exact⟨4,_,.inr (.inr ⟨rfl,by omega,by omega,rfl⟩)⟩
 have LD:Hid (aH8 (bt s p) n c0):=by show aH8 (bt s p) n c0;rw [HB.out];exact hLd
 have hc0:0<=c0/\c0<=31:=by rcases hLd with h | h | h <;> omega
 have hwsp:IntKind.wrap .i64 ((s.size:Int) - (p:Int))=(s.size:Int) - (p:Int):=wrap_small _ (by omega) (by omega)
 go_enter Tryz.func120,Tryz.ntmps120
 rcases hLd with⟨rfl,l1,l2,l3⟩ | ⟨rfl,l1,l2,l3⟩ | ⟨rfl,l1,l2,l3⟩
 ·have j1:(192:Int)<=(b0:Int):=by omega
  have j4:(b0:Int) < 224:=by omega
  have v1:IntKind.wrap .i64 ((b0:Int) - 192)=c0:=by rw [wrap_small _ (by omega) (by omega)];omega
  clear k2 l1 l2 l3
  go_upto_region 16 with fail
  by_cases hsh:s.size - p < 2
  ·have E:Hid (ch s p=-1/\wd s p=1):=cJ (nX LD.out hsh)
   have q1:(s.size:Int) - (p:Int) < 2:=by omega
   go_wp2
   go_ret2
   rw [E.out.1,E.out.2]
   exact⟨rfl,Below.refl _ _⟩
  have q1:¬ (s.size:Int) - (p:Int) < 2:=by omega
  have hpn:p+2<=s.size:=by omega
  clear hsh
  go_wp2
  go_loopw [7,8] (fun t i wr=>∃ k:Nat,1<=k/\k<=2/\i=.int .i64 (k:Int)/\t=.int .i64 (cvF s p c0 (k - 1))/\oI s p k/\wr=w) (fun _ i _=>2 - (intOf i).toNat)
  case atStart=>exact⟨1,by omega,by omega,rfl,rfl,fun j h1 h2=>by omega,rfl⟩
  case round=>
   obtain⟨k,hk1,hk,rfl,rfl,hct,hw⟩:=hrel
   subst hw
   obtain⟨j,rfl⟩:∃ j,k=j+1:=⟨k - 1,by omega⟩
   rw [Nat.add_sub_cancel]
   have C:Hid (oI s p (j+1)):=hct
   have hcr:=nT (s:=s) (p:=p) hc0.1 hc0.2 j (by omega) hct
   obtain⟨cv,hcv⟩:∃ cv,cvF s p c0 j=cv:=⟨_,rfl⟩
   have HCV:Hid (cvF s p c0 j=cv):=hcv
   rw [hcv] at hcr ⊢
   clear hcv hct
   by_cases hlt:j+1 < 2
   ·have gk:=tO s (p+(j+1)) (by omega)
    obtain⟨bk,hbk⟩:∃ b,bt s (p+(j+1))=b:=⟨_,rfl⟩
    have hbkl:=fW s (p+(j+1))
    rw [hbk] at gk hbkl
    have HBK:Hid (bt s (p+(j+1))=bk):=hbk
    clear hbk
    have i1:((j+1:Nat):Int) < 2:=by omega
    have wbk:IntKind.wrap .i64 (bk:Int)=(bk:Int):=wrap_small _ (by omega) (by omega)
    have wix:IntKind.wrap .i64 ((p:Int)+((j+1:Nat):Int))=((p+(j+1):Nat):Int):=by rw [wrap_small _ (by omega) (by omega)];omega
    have x0:(0:Int)<=((p+(j+1):Nat):Int):=by omega
    have x1:((p+(j+1):Nat):Int) < (s.size:Int):=by omega
    have x2:((p+(j+1):Nat):Int).toNat=p+(j+1):=by omega
    obtain⟨ix,hix⟩:∃ ix,p+(j+1)=ix:=⟨_,rfl⟩
    obtain⟨jj,hjj⟩:∃ jj,j+1=jj:=⟨_,rfl⟩
    have ixl:ix < s.size:=by omega
    have gx:(s[ix]'ixl).toNat=bk:=by subst hix;exact gk
    clear gk
    rw [hix] at wix x0 x1 x2
    rw [hjj] at wix i1 ⊢
    have HJ:Hid (j+1=jj):=hjj
    have HIX:Hid (p+(j+1)=ix):=hix
    clear hjj hix
    by_cases b1:(bk:Int) < 128
    ·have E:Hid (ch s p=-1/\wd s p=1):=cJ (iV LD.out (j:=j+1) (by omega) hlt (.inl (by rw [HBK.out];omega)))
     go_wp2
     go_ret2
     rw [E.out.1,E.out.2]
     exact⟨rfl,Below.refl _ _⟩
    by_cases b2:(191:Int) < (bk:Int)
    ·have E:Hid (ch s p=-1/\wd s p=1):=cJ (iV LD.out (j:=j+1) (by omega) hlt (.inr (by rw [HBK.out];omega)))
     go_wp2
     go_ret2
     rw [E.out.1,E.out.2]
     exact⟨rfl,Below.refl _ _⟩
    have y1:IntKind.wrap .i64 (64 * cv)=64 * cv:=wrap_small _ (by omega) (by omega)
    have y2:IntKind.wrap .i64 (64 * cv+(bk:Int))=64 * cv+(bk:Int):=wrap_small _ (by omega) (by omega)
    have y3:IntKind.wrap .i64 (64 * cv+(bk:Int) - 128)=64 * cv+(bk:Int) - 128:=wrap_small _ (by omega) (by omega)
    have y4:IntKind.wrap .i64 ((jj:Int)+1)=(jj:Int)+1:=wrap_small _ (by omega) (by omega)
    go_wp2
    go_roundw
    case rel=>
     refine⟨jj+1,by omega,by have:=HJ.out;omega,by go_num,?_,fun i q1 q2=>?_,by first | rfl | trivial⟩
     ·rw [Nat.add_sub_cancel,<- HJ.out,cvF,HCV.out,HBK.out]
     ·by_cases e:i < j+1
      ·exact C.out i q1 e
      ·obtain rfl:i=j+1:=by have:=HJ.out;omega
       rw [HBK.out];omega
    case measure=>simp only [intOf];have:=HJ.out;omega
   ·obtain rfl:j=2 - 1:=by omega
    have i1:¬ (((2:Nat) - 1+1:Nat):Int) < 2:=by omega
    have his:=aM5 cv
    have wpn:IntKind.wrap .i64 ((p:Int)+2)=(p:Int)+2:=wrap_small _ (by omega) (by omega)
    have z1:(p:Int)<=(p:Int)+2:=by omega
    have z2:(p:Int)+2<=(s.size:Int):=by omega
    have z3:((p:Int)+2).toNat=p+2:=by omega
    rcases hcx:isC cv with _ | _
    ·rw [hcx] at his
     have E:Hid (ch s p=-1/\wd s p=1):=by
      refine cJ ?_
      rcases hb:bad s p with _ | _
      ·exfalso
       have gv:=iQ LD.out C.out hb
       have hv:=nS s p
       rw [gv.1,HCV.out] at hv
       simp [isC] at hcx
       simp [Lib.validRune] at hv
       omega
      ·rfl
     go_wp2_with (go_at_call 139;(with_reducible refine(his _).mono ?_);rintro e w5 ⟨rfl,h5⟩;subst w5)
     refine wx9 ?_
     repeat (go_big_quiet_step (first | exact rfl))
     refine wpQuiet_nil ?_
     intro w5 hw5
     have B5:Hid (Below wr.heap.size wr w5):=aD hw5
     clear hw5
     go_wp2
     go_ret2
     rw [E.out.1,E.out.2]
     exact⟨rfl,B5.out⟩
    ·rw [hcx] at his
     have hEx:Hid (∀ W,Calls Tryz.prog 140 #[.int .i64 cv] W fun e w'=>e=.returned (.string (txt (Lib.encodeRune cv)))/\Below W.heap.size W w'):=fun W=>sZ cv W hcx
     have hir:0<=cv/\cv<=1114111/\(cv < 55296\/57343 < cv):=by simpa [isC] using hcx
     have HIR:Hid _:=hir
     obtain⟨T,hT⟩:∃ T,txt (Lib.encodeRune cv)=T:=⟨_,rfl⟩
     rw [hT] at hEx
     have hTl:T.toList=Lib.encodeRune cv:=by rw [<- hT,Lib.toList_data];rfl
     have hsl:=lS s p 2
     by_cases heq:Lib.encodeRune cv=sl s p 2
     ·have hcmp:(T.toList==(s.extract p (p+2)).toList)=true:=by rw [hTl,hsl,heq];simp
      have E:Hid (ch s p=cv/\wd s p=2):=by
       show ch s p=cv/\wd s p=2
       have hl:(Lib.encodeRune cv).length=2:=by rw [heq];unfold sl;rw [List.length_take,List.length_drop,bN];omega
       have d:=lU HIR.out (by rw [hl];exact heq.symm)
       exact⟨by rw [mY d.2.2,d.1],by rw [d.2.1,hl]⟩
      clear hT hTl hsl heq hir
      go_wp2_with (go_at_call 139;(with_reducible refine(his _).mono ?_);rintro e w5 ⟨rfl,h5⟩;subst w5)
      refine wx9 ?_
      repeat (go_big_quiet_step (first | exact rfl |(go_at_call 140;exact bI (hEx.out _))))
      refine wpQuiet_nil ?_
      intro w5 hw5
      have B5:Hid (Below wr.heap.size wr w5):=aD hw5
      clear hw5
      go_wp2
      go_ret2
      rw [E.out.1,E.out.2]
      exact⟨rfl,B5.out⟩
     ·have hcmp:(T.toList==(s.extract p (p+2)).toList)=false:=by rw [hTl,hsl];simpa using heq
      have E:Hid (ch s p=-1/\wd s p=1):=by
       refine cJ ?_
       rcases hb:bad s p with _ | _
       ·exfalso
        have gv:=iQ LD.out C.out hb
        have es:=yS s p hp hb
        rw [gv.2,gv.1,HCV.out] at es
        exact heq es
       ·rfl
      clear hT hTl hsl heq hir
      go_wp2_with (go_at_call 139;(with_reducible refine(his _).mono ?_);rintro e w5 ⟨rfl,h5⟩;subst w5)
      refine wx9 ?_
      repeat (go_big_quiet_step (first | exact rfl |(go_at_call 140;exact bI (hEx.out _))))
      refine wpQuiet_nil ?_
      intro w5 hw5
      have B5:Hid (Below wr.heap.size wr w5):=aD hw5
      clear hw5
      go_wp2
      go_ret2
      rw [E.out.1,E.out.2]
      exact⟨rfl,B5.out⟩
 ·have j1:(224:Int)<=(b0:Int):=by omega
  have j4:(b0:Int) < 240:=by omega
  have j6:(192:Int)<=(b0:Int):=by omega
  have j7:¬ (b0:Int) < 224:=by omega
  have v1:IntKind.wrap .i64 ((b0:Int) - 224)=c0:=by rw [wrap_small _ (by omega) (by omega)];omega
  clear k2 l1 l2 l3
  go_upto_region 16 with fail
  by_cases hsh:s.size - p < 3
  ·have E:Hid (ch s p=-1/\wd s p=1):=cJ (nX LD.out hsh)
   have q1:(s.size:Int) - (p:Int) < 3:=by omega
   go_wp2
   go_ret2
   rw [E.out.1,E.out.2]
   exact⟨rfl,Below.refl _ _⟩
  have q1:¬ (s.size:Int) - (p:Int) < 3:=by omega
  have hpn:p+3<=s.size:=by omega
  clear hsh
  go_wp2
  go_loopw [7,8] (fun t i wr=>∃ k:Nat,1<=k/\k<=3/\i=.int .i64 (k:Int)/\t=.int .i64 (cvF s p c0 (k - 1))/\oI s p k/\wr=w) (fun _ i _=>3 - (intOf i).toNat)
  case atStart=>exact⟨1,by omega,by omega,rfl,rfl,fun j h1 h2=>by omega,rfl⟩
  case round=>
   obtain⟨k,hk1,hk,rfl,rfl,hct,hw⟩:=hrel
   subst hw
   obtain⟨j,rfl⟩:∃ j,k=j+1:=⟨k - 1,by omega⟩
   rw [Nat.add_sub_cancel]
   have C:Hid (oI s p (j+1)):=hct
   have hcr:=nT (s:=s) (p:=p) hc0.1 hc0.2 j (by omega) hct
   obtain⟨cv,hcv⟩:∃ cv,cvF s p c0 j=cv:=⟨_,rfl⟩
   have HCV:Hid (cvF s p c0 j=cv):=hcv
   rw [hcv] at hcr ⊢
   clear hcv hct
   by_cases hlt:j+1 < 3
   ·have gk:=tO s (p+(j+1)) (by omega)
    obtain⟨bk,hbk⟩:∃ b,bt s (p+(j+1))=b:=⟨_,rfl⟩
    have hbkl:=fW s (p+(j+1))
    rw [hbk] at gk hbkl
    have HBK:Hid (bt s (p+(j+1))=bk):=hbk
    clear hbk
    have i1:((j+1:Nat):Int) < 3:=by omega
    have wbk:IntKind.wrap .i64 (bk:Int)=(bk:Int):=wrap_small _ (by omega) (by omega)
    have wix:IntKind.wrap .i64 ((p:Int)+((j+1:Nat):Int))=((p+(j+1):Nat):Int):=by rw [wrap_small _ (by omega) (by omega)];omega
    have x0:(0:Int)<=((p+(j+1):Nat):Int):=by omega
    have x1:((p+(j+1):Nat):Int) < (s.size:Int):=by omega
    have x2:((p+(j+1):Nat):Int).toNat=p+(j+1):=by omega
    obtain⟨ix,hix⟩:∃ ix,p+(j+1)=ix:=⟨_,rfl⟩
    obtain⟨jj,hjj⟩:∃ jj,j+1=jj:=⟨_,rfl⟩
    have ixl:ix < s.size:=by omega
    have gx:(s[ix]'ixl).toNat=bk:=by subst hix;exact gk
    clear gk
    rw [hix] at wix x0 x1 x2
    rw [hjj] at wix i1 ⊢
    have HJ:Hid (j+1=jj):=hjj
    have HIX:Hid (p+(j+1)=ix):=hix
    clear hjj hix
    by_cases b1:(bk:Int) < 128
    ·have E:Hid (ch s p=-1/\wd s p=1):=cJ (iV LD.out (j:=j+1) (by omega) hlt (.inl (by rw [HBK.out];omega)))
     go_wp2
     go_ret2
     rw [E.out.1,E.out.2]
     exact⟨rfl,Below.refl _ _⟩
    by_cases b2:(191:Int) < (bk:Int)
    ·have E:Hid (ch s p=-1/\wd s p=1):=cJ (iV LD.out (j:=j+1) (by omega) hlt (.inr (by rw [HBK.out];omega)))
     go_wp2
     go_ret2
     rw [E.out.1,E.out.2]
     exact⟨rfl,Below.refl _ _⟩
    have y1:IntKind.wrap .i64 (64 * cv)=64 * cv:=wrap_small _ (by omega) (by omega)
    have y2:IntKind.wrap .i64 (64 * cv+(bk:Int))=64 * cv+(bk:Int):=wrap_small _ (by omega) (by omega)
    have y3:IntKind.wrap .i64 (64 * cv+(bk:Int) - 128)=64 * cv+(bk:Int) - 128:=wrap_small _ (by omega) (by omega)
    have y4:IntKind.wrap .i64 ((jj:Int)+1)=(jj:Int)+1:=wrap_small _ (by omega) (by omega)
    go_wp2
    go_roundw
    case rel=>
     refine⟨jj+1,by omega,by have:=HJ.out;omega,by go_num,?_,fun i q1 q2=>?_,by first | rfl | trivial⟩
     ·rw [Nat.add_sub_cancel,<- HJ.out,cvF,HCV.out,HBK.out]
     ·by_cases e:i < j+1
      ·exact C.out i q1 e
      ·obtain rfl:i=j+1:=by have:=HJ.out;omega
       rw [HBK.out];omega
    case measure=>simp only [intOf];have:=HJ.out;omega
   ·obtain rfl:j=3 - 1:=by omega
    have i1:¬ (((3:Nat) - 1+1:Nat):Int) < 3:=by omega
    have his:=aM5 cv
    have wpn:IntKind.wrap .i64 ((p:Int)+3)=(p:Int)+3:=wrap_small _ (by omega) (by omega)
    have z1:(p:Int)<=(p:Int)+3:=by omega
    have z2:(p:Int)+3<=(s.size:Int):=by omega
    have z3:((p:Int)+3).toNat=p+3:=by omega
    rcases hcx:isC cv with _ | _
    ·rw [hcx] at his
     have E:Hid (ch s p=-1/\wd s p=1):=by
      refine cJ ?_
      rcases hb:bad s p with _ | _
      ·exfalso
       have gv:=iQ LD.out C.out hb
       have hv:=nS s p
       rw [gv.1,HCV.out] at hv
       simp [isC] at hcx
       simp [Lib.validRune] at hv
       omega
      ·rfl
     go_wp2_with (go_at_call 139;(with_reducible refine(his _).mono ?_);rintro e w5 ⟨rfl,h5⟩;subst w5)
     refine wx9 ?_
     repeat (go_big_quiet_step (first | exact rfl))
     refine wpQuiet_nil ?_
     intro w5 hw5
     have B5:Hid (Below wr.heap.size wr w5):=aD hw5
     clear hw5
     go_wp2
     go_ret2
     rw [E.out.1,E.out.2]
     exact⟨rfl,B5.out⟩
    ·rw [hcx] at his
     have hEx:Hid (∀ W,Calls Tryz.prog 140 #[.int .i64 cv] W fun e w'=>e=.returned (.string (txt (Lib.encodeRune cv)))/\Below W.heap.size W w'):=fun W=>sZ cv W hcx
     have hir:0<=cv/\cv<=1114111/\(cv < 55296\/57343 < cv):=by simpa [isC] using hcx
     have HIR:Hid _:=hir
     obtain⟨T,hT⟩:∃ T,txt (Lib.encodeRune cv)=T:=⟨_,rfl⟩
     rw [hT] at hEx
     have hTl:T.toList=Lib.encodeRune cv:=by rw [<- hT,Lib.toList_data];rfl
     have hsl:=lS s p 3
     by_cases heq:Lib.encodeRune cv=sl s p 3
     ·have hcmp:(T.toList==(s.extract p (p+3)).toList)=true:=by rw [hTl,hsl,heq];simp
      have E:Hid (ch s p=cv/\wd s p=3):=by
       show ch s p=cv/\wd s p=3
       have hl:(Lib.encodeRune cv).length=3:=by rw [heq];unfold sl;rw [List.length_take,List.length_drop,bN];omega
       have d:=lU HIR.out (by rw [hl];exact heq.symm)
       exact⟨by rw [mY d.2.2,d.1],by rw [d.2.1,hl]⟩
      clear hT hTl hsl heq hir
      go_wp2_with (go_at_call 139;(with_reducible refine(his _).mono ?_);rintro e w5 ⟨rfl,h5⟩;subst w5)
      refine wx9 ?_
      repeat (go_big_quiet_step (first | exact rfl |(go_at_call 140;exact bI (hEx.out _))))
      refine wpQuiet_nil ?_
      intro w5 hw5
      have B5:Hid (Below wr.heap.size wr w5):=aD hw5
      clear hw5
      go_wp2
      go_ret2
      rw [E.out.1,E.out.2]
      exact⟨rfl,B5.out⟩
     ·have hcmp:(T.toList==(s.extract p (p+3)).toList)=false:=by rw [hTl,hsl];simpa using heq
      have E:Hid (ch s p=-1/\wd s p=1):=by
       refine cJ ?_
       rcases hb:bad s p with _ | _
       ·exfalso
        have gv:=iQ LD.out C.out hb
        have es:=yS s p hp hb
        rw [gv.2,gv.1,HCV.out] at es
        exact heq es
       ·rfl
      clear hT hTl hsl heq hir
      go_wp2_with (go_at_call 139;(with_reducible refine(his _).mono ?_);rintro e w5 ⟨rfl,h5⟩;subst w5)
      refine wx9 ?_
      repeat (go_big_quiet_step (first | exact rfl |(go_at_call 140;exact bI (hEx.out _))))
      refine wpQuiet_nil ?_
      intro w5 hw5
      have B5:Hid (Below wr.heap.size wr w5):=aD hw5
      clear hw5
      go_wp2
      go_ret2
      rw [E.out.1,E.out.2]
      exact⟨rfl,B5.out⟩
 ·have j1:(240:Int)<=(b0:Int):=by omega
  have j4:(b0:Int) < 248:=by omega
  have j6:(192:Int)<=(b0:Int):=by omega
  have j7:¬ (b0:Int) < 224:=by omega
  have j8:(224:Int)<=(b0:Int):=by omega
  have j9:¬ (b0:Int) < 240:=by omega
  have v1:IntKind.wrap .i64 ((b0:Int) - 240)=c0:=by rw [wrap_small _ (by omega) (by omega)];omega
  clear k2 l1 l2 l3
  go_upto_region 16 with fail
  by_cases hsh:s.size - p < 4
  ·have E:Hid (ch s p=-1/\wd s p=1):=cJ (nX LD.out hsh)
   have q1:(s.size:Int) - (p:Int) < 4:=by omega
   go_wp2
   go_ret2
   rw [E.out.1,E.out.2]
   exact⟨rfl,Below.refl _ _⟩
  have q1:¬ (s.size:Int) - (p:Int) < 4:=by omega
  have hpn:p+4<=s.size:=by omega
  clear hsh
  go_wp2
  go_loopw [7,8] (fun t i wr=>∃ k:Nat,1<=k/\k<=4/\i=.int .i64 (k:Int)/\t=.int .i64 (cvF s p c0 (k - 1))/\oI s p k/\wr=w) (fun _ i _=>4 - (intOf i).toNat)
  case atStart=>exact⟨1,by omega,by omega,rfl,rfl,fun j h1 h2=>by omega,rfl⟩
  case round=>
   obtain⟨k,hk1,hk,rfl,rfl,hct,hw⟩:=hrel
   subst hw
   obtain⟨j,rfl⟩:∃ j,k=j+1:=⟨k - 1,by omega⟩
   rw [Nat.add_sub_cancel]
   have C:Hid (oI s p (j+1)):=hct
   have hcr:=nT (s:=s) (p:=p) hc0.1 hc0.2 j (by omega) hct
   obtain⟨cv,hcv⟩:∃ cv,cvF s p c0 j=cv:=⟨_,rfl⟩
   have HCV:Hid (cvF s p c0 j=cv):=hcv
   rw [hcv] at hcr ⊢
   clear hcv hct
   by_cases hlt:j+1 < 4
   ·have gk:=tO s (p+(j+1)) (by omega)
    obtain⟨bk,hbk⟩:∃ b,bt s (p+(j+1))=b:=⟨_,rfl⟩
    have hbkl:=fW s (p+(j+1))
    rw [hbk] at gk hbkl
    have HBK:Hid (bt s (p+(j+1))=bk):=hbk
    clear hbk
    have i1:((j+1:Nat):Int) < 4:=by omega
    have wbk:IntKind.wrap .i64 (bk:Int)=(bk:Int):=wrap_small _ (by omega) (by omega)
    have wix:IntKind.wrap .i64 ((p:Int)+((j+1:Nat):Int))=((p+(j+1):Nat):Int):=by rw [wrap_small _ (by omega) (by omega)];omega
    have x0:(0:Int)<=((p+(j+1):Nat):Int):=by omega
    have x1:((p+(j+1):Nat):Int) < (s.size:Int):=by omega
    have x2:((p+(j+1):Nat):Int).toNat=p+(j+1):=by omega
    obtain⟨ix,hix⟩:∃ ix,p+(j+1)=ix:=⟨_,rfl⟩
    obtain⟨jj,hjj⟩:∃ jj,j+1=jj:=⟨_,rfl⟩
    have ixl:ix < s.size:=by omega
    have gx:(s[ix]'ixl).toNat=bk:=by subst hix;exact gk
    clear gk
    rw [hix] at wix x0 x1 x2
    rw [hjj] at wix i1 ⊢
    have HJ:Hid (j+1=jj):=hjj
    have HIX:Hid (p+(j+1)=ix):=hix
    clear hjj hix
    by_cases b1:(bk:Int) < 128
    ·have E:Hid (ch s p=-1/\wd s p=1):=cJ (iV LD.out (j:=j+1) (by omega) hlt (.inl (by rw [HBK.out];omega)))
     go_wp2
     go_ret2
     rw [E.out.1,E.out.2]
     exact⟨rfl,Below.refl _ _⟩
    by_cases b2:(191:Int) < (bk:Int)
    ·have E:Hid (ch s p=-1/\wd s p=1):=cJ (iV LD.out (j:=j+1) (by omega) hlt (.inr (by rw [HBK.out];omega)))
     go_wp2
     go_ret2
     rw [E.out.1,E.out.2]
     exact⟨rfl,Below.refl _ _⟩
    have y1:IntKind.wrap .i64 (64 * cv)=64 * cv:=wrap_small _ (by omega) (by omega)
    have y2:IntKind.wrap .i64 (64 * cv+(bk:Int))=64 * cv+(bk:Int):=wrap_small _ (by omega) (by omega)
    have y3:IntKind.wrap .i64 (64 * cv+(bk:Int) - 128)=64 * cv+(bk:Int) - 128:=wrap_small _ (by omega) (by omega)
    have y4:IntKind.wrap .i64 ((jj:Int)+1)=(jj:Int)+1:=wrap_small _ (by omega) (by omega)
    go_wp2
    go_roundw
    case rel=>
     refine⟨jj+1,by omega,by have:=HJ.out;omega,by go_num,?_,fun i q1 q2=>?_,by first | rfl | trivial⟩
     ·rw [Nat.add_sub_cancel,<- HJ.out,cvF,HCV.out,HBK.out]
     ·by_cases e:i < j+1
      ·exact C.out i q1 e
      ·obtain rfl:i=j+1:=by have:=HJ.out;omega
       rw [HBK.out];omega
    case measure=>simp only [intOf];have:=HJ.out;omega
   ·obtain rfl:j=4 - 1:=by omega
    have i1:¬ (((4:Nat) - 1+1:Nat):Int) < 4:=by omega
    have his:=aM5 cv
    have wpn:IntKind.wrap .i64 ((p:Int)+4)=(p:Int)+4:=wrap_small _ (by omega) (by omega)
    have z1:(p:Int)<=(p:Int)+4:=by omega
    have z2:(p:Int)+4<=(s.size:Int):=by omega
    have z3:((p:Int)+4).toNat=p+4:=by omega
    rcases hcx:isC cv with _ | _
    ·rw [hcx] at his
     have E:Hid (ch s p=-1/\wd s p=1):=by
      refine cJ ?_
      rcases hb:bad s p with _ | _
      ·exfalso
       have gv:=iQ LD.out C.out hb
       have hv:=nS s p
       rw [gv.1,HCV.out] at hv
       simp [isC] at hcx
       simp [Lib.validRune] at hv
       omega
      ·rfl
     go_wp2_with (go_at_call 139;(with_reducible refine(his _).mono ?_);rintro e w5 ⟨rfl,h5⟩;subst w5)
     refine wx9 ?_
     repeat (go_big_quiet_step (first | exact rfl))
     refine wpQuiet_nil ?_
     intro w5 hw5
     have B5:Hid (Below wr.heap.size wr w5):=aD hw5
     clear hw5
     go_wp2
     go_ret2
     rw [E.out.1,E.out.2]
     exact⟨rfl,B5.out⟩
    ·rw [hcx] at his
     have hEx:Hid (∀ W,Calls Tryz.prog 140 #[.int .i64 cv] W fun e w'=>e=.returned (.string (txt (Lib.encodeRune cv)))/\Below W.heap.size W w'):=fun W=>sZ cv W hcx
     have hir:0<=cv/\cv<=1114111/\(cv < 55296\/57343 < cv):=by simpa [isC] using hcx
     have HIR:Hid _:=hir
     obtain⟨T,hT⟩:∃ T,txt (Lib.encodeRune cv)=T:=⟨_,rfl⟩
     rw [hT] at hEx
     have hTl:T.toList=Lib.encodeRune cv:=by rw [<- hT,Lib.toList_data];rfl
     have hsl:=lS s p 4
     by_cases heq:Lib.encodeRune cv=sl s p 4
     ·have hcmp:(T.toList==(s.extract p (p+4)).toList)=true:=by rw [hTl,hsl,heq];simp
      have E:Hid (ch s p=cv/\wd s p=4):=by
       show ch s p=cv/\wd s p=4
       have hl:(Lib.encodeRune cv).length=4:=by rw [heq];unfold sl;rw [List.length_take,List.length_drop,bN];omega
       have d:=lU HIR.out (by rw [hl];exact heq.symm)
       exact⟨by rw [mY d.2.2,d.1],by rw [d.2.1,hl]⟩
      clear hT hTl hsl heq hir
      go_wp2_with (go_at_call 139;(with_reducible refine(his _).mono ?_);rintro e w5 ⟨rfl,h5⟩;subst w5)
      refine wx9 ?_
      repeat (go_big_quiet_step (first | exact rfl |(go_at_call 140;exact bI (hEx.out _))))
      refine wpQuiet_nil ?_
      intro w5 hw5
      have B5:Hid (Below wr.heap.size wr w5):=aD hw5
      clear hw5
      go_wp2
      go_ret2
      rw [E.out.1,E.out.2]
      exact⟨rfl,B5.out⟩
     ·have hcmp:(T.toList==(s.extract p (p+4)).toList)=false:=by rw [hTl,hsl];simpa using heq
      have E:Hid (ch s p=-1/\wd s p=1):=by
       refine cJ ?_
       rcases hb:bad s p with _ | _
       ·exfalso
        have gv:=iQ LD.out C.out hb
        have es:=yS s p hp hb
        rw [gv.2,gv.1,HCV.out] at es
        exact heq es
       ·rfl
      clear hT hTl hsl heq hir
      go_wp2_with (go_at_call 139;(with_reducible refine(his _).mono ?_);rintro e w5 ⟨rfl,h5⟩;subst w5)
      refine wx9 ?_
      repeat (go_big_quiet_step (first | exact rfl |(go_at_call 140;exact bI (hEx.out _))))
      refine wpQuiet_nil ?_
      intro w5 hw5
      have B5:Hid (Below wr.heap.size wr w5):=aD hw5
      clear hw5
      go_wp2
      go_ret2
      rw [E.out.1,E.out.2]
      exact⟨rfl,B5.out⟩
end
section
attribute [local go_sem] aR
theorem dB(s:ByteArray)(k:Nat)(m:Md)(w:World)(hk:k < s.size)(hs:s.size<=2000) :
  Calls Tryz.prog 93 #[.string s,.int .i64 (k:Int),.bool m.c] w fun e w'=>e=.returned (.tuple #[.int .i64 (un m s k).1,.int .i64 ((un m s k).2:Int)])/\Below w.heap.size w w':=by
 obtain⟨mc,mf⟩:=m
 cases mc with
 | true=>
  have e:un ⟨true,mf⟩ s k=(ch s k,wd s k):=rfl
  rw [e]
  clear e
  have hc:=fun W=>aV9 s k W hk (by omega)
  go_enter Tryz.func93,Tryz.ntmps93
  go_wp2_with (go_at_call 120;refine(hc _).mono ?_;rintro e w5 ⟨rfl,h5⟩;have X5:Hid (Below w.heap.size w w5):=h5;clear h5)
  go_ret2
  exact⟨rfl,X5.out⟩
 | false=>
  have e:un ⟨false,mf⟩ s k=((bt s k:Int),1):=rfl
  rw [e]
  clear e
  have hx:=cI s k hk
  have hlt:=fW s k
  have i0:¬ (k:Int) < 0:=by omega
  have i1:¬ (s.size:Int)<=(k:Int):=by omega
  have i2:(0:Int)<=(k:Int):=by omega
  have i3:(k:Int) < (s.size:Int):=by omega
  have hw:IntKind.wrap .i64 ((s[k]'hk).toNat:Int)=((s[k]'hk).toNat:Int):=wrap_small _ (by omega) (by omega)
  go_enter Tryz.func93,Tryz.ntmps93
  go_wp2
  go_ret2
  refine⟨?_,Below.refl _ _⟩
  rw [<- hx]
  rfl
theorem aD1(s:ByteArray)(k:Nat)(m:Md)(w:World)(hk:s.size<=k)(hs:k<=5000) :
  Calls Tryz.prog 93 #[.string s,.int .i64 (k:Int),.bool m.c] w fun e w'=>e=.returned (.tuple #[.int .i64 0,.int .i64 0])/\Below w.heap.size w w':=by
 have i0:¬ (k:Int) < 0:=by omega
 have i1:(s.size:Int)<=(k:Int):=by omega
 obtain⟨mc,mf⟩:=m
 cases mc with
 | true=>
  have hc:∀ W,Calls Tryz.prog 120 #[.string s,.int .i64 (k:Int)] W fun e w'=>e=.returned (.tuple #[.int .i64 0,.int .i64 0])/\Below W.heap.size W w':=fun W=>by
   go_enter Tryz.func120,Tryz.ntmps120
   go_wp2
   go_ret2
   exact⟨rfl,Below.refl _ _⟩
  go_enter Tryz.func93,Tryz.ntmps93
  go_wp2_with (go_at_call 120;refine(hc _).mono ?_;rintro e w5 ⟨rfl,h5⟩;have X5:Hid (Below w.heap.size w w5):=h5;clear h5)
  go_ret2
  exact⟨rfl,X5.out⟩
 | false=>
  go_enter Tryz.func93,Tryz.ntmps93
  go_wp2
  go_ret2
  exact⟨rfl,Below.refl _ _⟩
theorem rF{w:World}{b:Nat}{s:ByteArray}{m:Md}{p0:Nat}{tv:Value}{x a:Nat}(h:SX w b s m p0 tv x a)(p:Nat)(hp:p<=s.size)(hs:s.size<=2000) :
  Calls Tryz.prog 141 #[.pointer (some ⟨b,0,none⟩),.int .i64 (p:Int)] w fun e w'=>e=.returned (.tuple #[.int .i64 (fE (bQ s p):Int),.int .i64 ((p+(bQ s p).length:Nat):Int),.bool (decide (0 < (bQ s p).length))])/\Below w.heap.size w w':=by
 have c0:=h.c0
 have lb:=h.lt
 have hlen:=lC s p hp
 obtain⟨QQ,hQQ⟩:∃ QQ,QQ=p+(bQ s p).length:=⟨_,rfl⟩
 obtain⟨NN,hNN⟩:∃ NN,NN=fE (bQ s p):=⟨_,rfl⟩
 rw [<- hQQ,<- hNN]
 have HQ:Hid (QQ=p+(bQ s p).length/\NN=fE (bQ s p)):=⟨hQQ,hNN⟩
 clear h hQQ hNN
 go_enter Tryz.func141,Tryz.ntmps141
 go_wp2
 go_loopw [1,7] (fun u v wr=>∃ k:Nat,k<=(bQ s p).length/\u=.int .i64 ((p+k:Nat):Int)/\v=.int .i64 (fE ((bQ s p).take k):Int)/\wr=w) (fun u _ _=>s.size+1 - (intOf u).toNat)
 case atStart=>exact⟨0,Nat.zero_le _,rfl,rfl,rfl⟩
 case round=>
  obtain⟨k,hk,rfl,rfl,rfl⟩:=hrel
  obtain⟨pos,hpos⟩:∃ pos,pos=p+k:=⟨_,rfl⟩
  rw [<- hpos]
  obtain⟨n,hn⟩:∃ n,n=fE ((bQ s p).take k):=⟨_,rfl⟩
  have hn2:n<=256:=by rw [hn];exact kR _
  rw [<- hn]
  have i0:(0:Int)<=(pos:Int):=by omega
  rcases Nat.lt_or_ge k (bQ s p).length with hlt | hge
  ·obtain⟨x,hx⟩:∃ x,(bQ s p)[k]?=some x:=⟨_,List.getElem?_eq_getElem hlt⟩
   obtain⟨hx1,hx2,hx3⟩:=wL hx
   have htk:fE ((bQ s p).take (k+1))=min (10 * n+(x.toNat - 48)) 256:=by
    rw [List.take_add_one,hx,hn]
    exact nJ _ _
   rw [<- hpos] at hx1
   obtain⟨hpl,hbx⟩:=kD.1 hx1
   have hxv:s[pos]'hpl=x:=by
    have:=cI s pos hpl
    exact UInt8.toNat_inj.1 (by omega)
   obtain⟨d,hd⟩:∃ d,d=x.toNat - 48:=⟨_,rfl⟩
   obtain⟨n',hn'⟩:∃ n',n'=min (10 * n+d) 256:=⟨_,rfl⟩
   have j1:(48:Int)<=(x.toNat:Int):=by omega
   have j2:(x.toNat:Int)<=57:=by omega
   have i1:(pos:Int) < (s.size:Int):=by omega
   have hw1:IntKind.wrap .i64 (x.toNat:Int)=(x.toNat:Int):=wrap_small _ (by omega) (by omega)
   have hw2:IntKind.wrap .i64 (10 * (n:Int))=10 * (n:Int):=wrap_small _ (by omega) (by omega)
   have hw3:IntKind.wrap .i64 (10 * (n:Int)+(x.toNat:Int))=10 * (n:Int)+(x.toNat:Int):=wrap_small _ (by omega) (by omega)
   have hw4:IntKind.wrap .i64 ((pos:Int)+1)=(pos:Int)+1:=wrap_small _ (by omega) (by omega)
   have hw5:IntKind.wrap .i64 (10 * (n:Int)+(x.toNat:Int) - 48)=10 * (n:Int)+(d:Int):=by rw [wrap_small _ (by omega) (by omega)];omega
   have hmin:∀ (t:Array TypeId) (ty:TypeId) (W:World),(Builtin.min_ t ty #[.int .i64 (10 * (n:Int)+(d:Int)),.int .i64 256]).run Tryz.prog W=.ok (.int .i64 (n':Int)) W:=fun t ty W=>by
    rw [mO,hn']
    congr 2
    omega
   have F:Hid (pos=p+k/\n'=fE ((bQ s p).take (k+1))):=⟨hpos,by rw [htk,hn',hd]⟩
   clear hpos hn hx htk hx1 hbx hd hn'
   go_wp2
   go_roundw
   case rel=>exact⟨k+1,by omega,by rw [<- Nat.add_assoc,<- F.out.1];rfl,by rw [<- F.out.2],trivial⟩
   case measure=>simp [intOf];omega
  ·have hkl:k=(bQ s p).length:=by omega
   have hend:pos=s.size\/∃ x:UInt8,∃ hpl:pos < s.size,s[pos]'hpl=x/\(x.toNat < 48\/57 < x.toNat):=by
    rcases Nat.lt_or_ge pos s.size with g | g
    ·refine .inr ⟨_,g,rfl,?_⟩
     refine wM (s:=s) (p:=p) ?_
     rw [<- hkl,<- hpos]
     exact List.getElem?_eq_getElem (by rw [bN];exact g)
    ·exact .inl (by omega)
   have F:Hid (pos=QQ/\n=NN):=⟨by have:=HQ.out.1;omega,by rw [hn,hkl,List.take_length,HQ.out.2]⟩
   have DG:Hid (decide (p < pos)=decide (0 < (bQ s p).length)):=decide_eq_decide.2 (by omega)
   clear hpos hn hkl hge hk hlen
   rcases hend with hpe | ⟨x,hpl,hxv,hx⟩
   ·have i1:¬ (pos:Int) < (s.size:Int):=by omega
    clear hpe
    go_wp2
    go_ret3
    exact⟨by rw [<- F.out.2,<- DG.out,<- F.out.1];rfl,Below.refl _ _⟩
   ·have i1:(pos:Int) < (s.size:Int):=by omega
    have hx':x.toNat < 48\/48<=x.toNat/\57 < x.toNat:=by omega
    rcases hx' with j1 | ⟨j1,j2⟩
    ·have j1':¬ (48:Int)<=(x.toNat:Int):=by omega
     clear hx
     go_wp2
     go_ret3
     exact⟨by rw [<- F.out.2,<- DG.out,<- F.out.1];rfl,Below.refl _ _⟩
    ·have j1':(48:Int)<=(x.toNat:Int):=by omega
     have j2':¬ (x.toNat:Int)<=57:=by omega
     clear hx
     go_wp2
     go_ret3
     exact⟨by rw [<- F.out.2,<- DG.out,<- F.out.1];rfl,Below.refl _ _⟩
def bJ7(r:Option Nat):Int:=match r with
 | none=>-1
 | some e=>(e:Int)
theorem gJ{w:World}{b:Nat}{s:ByteArray}{m:Md}{p:Nat}{tv:Value}{x a:Nat}(h:SX w b s m p tv x a)(hs:s.size<=2000)(k:Nat)(hk:k<=4000)(t:ByteArray)(ht:t.size=2) :
  Calls Tryz.prog 156 #[.pointer (some ⟨b,0,none⟩),.int .i64 (k:Int),.string t] w fun e w'=>e=.returned (.int .i64 (bJ7 (fnd s t.data.toList k)))/\Below w.heap.size w w':=by
 have hne:t.data.toList≠[]:=fun q=>by have hl:=bN t;rw [q] at hl;simp at hl;omega
 have hl2:t.data.toList.length=2:=by rw [bN,ht]
 have H:Hid (SX w b s m p tv x a):=h
 clear h
 go_enter Tryz.func156,Tryz.ntmps156
 go_wp2
 go_loopw [7] (fun u wr=>∃ j:Nat,k<=j/\j<=4000/\u=.int .i64 (j:Int)/\(∀ i,k<=i->i < j->aJ s i t.data.toList=false)/\Below w.heap.size w wr) (fun u _=>s.size+4001 - (intOf u).toNat)
 case atStart=>exact⟨k,Nat.le_refl _,hk,rfl,fun i h1 h2=>by omega,Below.refl _ _⟩
 case round=>
  obtain⟨j,hj,hj2,rfl,hno,hb⟩:=hrel
  have G:Hid (SX wr b s m p tv x a/\Below w.heap.size w wr/\∀ i,k<=i->i < j->aJ s i t.data.toList=false):=⟨H.out.kept hb,hb,hno⟩
  have q0:=G.out.1.c0
  have ql:=G.out.1.lt
  clear hno hb
  by_cases hlt:j < s.size
  ·have i1:(j:Int) < (s.size:Int):=by omega
   have hc:=rI G.out.1 hs j (by omega) t (by omega) (by omega)
   have hw4:IntKind.wrap .i64 ((j:Int)+1)=(j:Int)+1:=wrap_small _ (by omega) (by omega)
   cases hsee:aJ s j t.data.toList with
   | true=>
    rw [hsee] at hc
    have E:Hid (fnd s t.data.toList k=some j):=bF6 hne hj hsee G.out.2.2
    go_wp2_with (go_at_call 96;refine hc.mono ?_;rintro e w5 ⟨rfl,h5⟩;have X5:Hid (Below w.heap.size w w5):=aE G.out.2.1 h5 lz9;clear h5)
    go_ret
    exact⟨by rw [E.out];rfl,X5.out⟩
   | false=>
    rw [hsee] at hc
    have HS:Hid (aJ s j t.data.toList=false):=hsee
    clear hsee
    go_wp2_with (go_at_call 96;refine hc.mono ?_;rintro e w5 ⟨rfl,h5⟩;have X5:Hid (Below w.heap.size w w5):=aE G.out.2.1 h5 lz9;clear h5)
    go_roundw
    case rel=>exact⟨j+1,by omega,by omega,rfl,fun i h1 h2=>by
     rcases Nat.lt_or_ge i j with g | g
     ·exact G.out.2.2 i h1 g
     ·rw [show i=j by omega];exact HS.out,X5.out⟩
    case measure=>simp [intOf];omega
  ·have i1:¬ (j:Int) < (s.size:Int):=by omega
   have E:Hid (fnd s t.data.toList k=none):=qD fun i hi=>by
    rcases Nat.lt_or_ge i j with g | g
    ·exact G.out.2.2 i hi g
    ·exact jO hne (by rw [hl2];omega)
   go_wp2
   go_ret
   exact⟨by rw [E.out];rfl,G.out.2.1⟩
end
structure Srt(S:List (Int × Int)):Prop where
 some:∀ r∈S,r.1<=r.2
 rise:S.Pairwise (fun a b=>a.1<=b.1)
theorem sJ:Srt []:=⟨fun _ h=>(by cases h),List.Pairwise.nil⟩
theorem uD{r:Int × Int}{L:List (Int × Int)}(h:Srt (r :: L)):Srt L:=⟨fun x hx=>h.some x (List.mem_cons_of_mem _ hx),(List.pairwise_cons.1 h.rise).2⟩
theorem sK{O L:List (Int × Int)}(h:Srt O)(k:Srt L)(hx:∀ x∈O,∀ y∈L,x.1<=y.1):Srt (O ++ L):=
 ⟨fun r hr=>(List.mem_append.1 hr).elim (h.some r) (k.some r),List.pairwise_append.2 ⟨h.rise,k.rise,hx⟩⟩
theorem sI{r:Int × Int}(h:r.1<=r.2):Srt [r]:=⟨fun x hx=>by simp at hx;subst hx;exact h,List.pairwise_singleton _ _⟩
structure MI(A B A' B' O:List (Int × Int)):Prop where
 out:Srt O
 a:Srt A'
 b:Srt B'
 mem:∀ c,(In O c\/In A' c\/In B' c) ↔ (In A c\/In B c)
 le:∀ x∈O,∀ y,y∈A'\/y∈B'->x.1<=y.1
 fit:Fit O/\Fit A'/\Fit B'
 len:O.length+A'.length+B'.length<=A.length+B.length
theorem MI.start{A B:List (Int × Int)}(ha:Srt A)(hb:Srt B)(fa:Fit A)(fb:Fit B):MI A B A B []:=
 ⟨sJ,ha,hb,fun c=>⟨fun q=>q.elim (fun q=>absurd q (eA c)) id,.inr⟩,fun _ h=>(by cases h),⟨cL,fa,fb⟩,by simp⟩
theorem MI.right{A B A' B' O:List (Int × Int)}{a b:Int × Int}(I:MI A B (a :: A') (b :: B') O)(h:b.1 < a.1):MI A B (a :: A') B' (O ++ [b]):=by
 refine⟨sK I.out (sI (I.b.some b (by simp))) (fun x hx y hy=>by simp at hy;subst hy;exact I.le x hx y (.inr (by simp))),I.a,uD I.b,fun c=>?_,fun x hx y hy=>?_,⟨bW I.fit.1 (fJ I.fit.2.2 fun z hz=>by simp at hz;subst hz;simp),I.fit.2.1,fJ I.fit.2.2 fun z hz=>List.mem_cons_of_mem _ hz⟩,by have:=I.len;simp at *;omega⟩
 ·rw [<- I.mem,bV,dI,bJ b B']
  constructor
  ·rintro ((q | q) | q | q)
   ·exact .inl q
   ·exact .inr (.inr (.inl q))
   ·exact .inr (.inl q)
   ·exact .inr (.inr (.inr q))
  ·rintro (q | q | q | q)
   ·exact .inl (.inl q)
   ·exact .inr (.inl q)
   ·exact .inl (.inr q)
   ·exact .inr (.inr q)
 ·rcases List.mem_append.1 hx with hx | hx
  ·exact I.le x hx y (hy.elim .inl fun q=>.inr (List.mem_cons_of_mem _ q))
  ·simp at hx
   subst hx
   rcases hy with hy | hy
   ·rcases List.mem_cons.1 hy with rfl | hy
    ·omega
    ·have:=(List.pairwise_cons.1 I.a.rise).1 y hy;omega
   ·exact(List.pairwise_cons.1 I.b.rise).1 y hy
theorem MI.left{A B A' B' O:List (Int × Int)}{a:Int × Int}(I:MI A B (a :: A') B' O)(h:∀ b∈B',a.1<=b.1):MI A B A' B' (O ++ [a]):=by
 refine⟨sK I.out (sI (I.a.some a (by simp))) (fun x hx y hy=>by simp at hy;subst hy;exact I.le x hx y (.inl (by simp))),uD I.a,I.b,fun c=>?_,fun x hx y hy=>?_,⟨bW I.fit.1 (fJ I.fit.2.1 fun z hz=>by simp at hz;subst hz;simp),fJ I.fit.2.1 fun z hz=>List.mem_cons_of_mem _ hz,I.fit.2.2⟩,by have:=I.len;simp at *;omega⟩
 ·rw [<- I.mem,bV,dI,bJ a A']
  constructor
  ·rintro ((q | q) | q | q)
   ·exact .inl q
   ·exact .inr (.inl (.inl q))
   ·exact .inr (.inl (.inr q))
   ·exact .inr (.inr q)
  ·rintro (q |(q | q) | q)
   ·exact .inl (.inl q)
   ·exact .inl (.inr q)
   ·exact .inr (.inl q)
   ·exact .inr (.inr q)
 ·rcases List.mem_append.1 hx with hx | hx
  ·exact I.le x hx y (hy.elim (fun q=>.inl (List.mem_cons_of_mem _ q)) .inr)
  ·simp at hx
   subst hx
   rcases hy with hy | hy
   ·exact(List.pairwise_cons.1 I.a.rise).1 y hy
   ·exact h y hy
theorem MI.done{A B B' O:List (Int × Int)}(I:MI A B [] B' O):Srt (O ++ B')/\(∀ c,In (O ++ B') c ↔ (In A c\/In B c))/\Fit (O ++ B')/\(O ++ B').length<=A.length+B.length:=by
 refine⟨sK I.out I.b fun x hx y hy=>I.le x hx y (.inr hy),fun c=>?_,bW I.fit.1 I.fit.2.2,by have:=I.len;simp at *;omega⟩
 rw [<- I.mem,bV]
 exact⟨fun q=>q.elim .inl fun q=>.inr (.inr q),fun q=>q.elim .inl fun q=>q.elim (fun q=>absurd q (eA c)) .inr⟩
def qM(w:World)(L:List (Int × Int))(e:Ending)(w':World):Prop:=∃ v S,e=.returned v/\RR w.heap.size w' v S/\Srt S/\Fit S/\(∀ c,In S c ↔ In L c)/\S.length<=L.length/\Below w.heap.size w w'
theorem ArgR.take{W:World}{g off n cap:Nat}{L:List (Int × Int)}(h:ArgR W (.slice (some ⟨g,off,none⟩) n cap) L){k:Nat}(hk:k<=L.length):ArgR W (.slice (some ⟨g,off,none⟩) k cap) (L.take k):=by
 have hl:(L.take k).length=k:=by simp;omega
 rcases h with⟨p,c,e,rfl,e2⟩ | ⟨g',off',cap',e,h2,h3,h4,h5⟩
 ·simp at hk
  subst hk
  cases e
  exact .inl ⟨_,_,rfl,rfl,fun q=>by cases q⟩
 ·cases e
  refine .inr ⟨g,off,cap,by rw [hl],h2,by omega,h4,fun i r hi=>h5 i r ?_⟩
  rw [List.getElem?_take] at hi
  split at hi
  ·exact hi
  ·cases hi
theorem ArgR.drop{W:World}{g off n cap:Nat}{L:List (Int × Int)}(h:ArgR W (.slice (some ⟨g,off,none⟩) n cap) L){k:Nat}(hk:k < L.length):ArgR W (.slice (some ⟨g,off+k * 2,none⟩) (n - k) (cap - k)) (L.drop k):=by
 rcases h with⟨p,c,e,rfl,e2⟩ | ⟨g',off',cap',e,h2,h3,h4,h5⟩
 ·simp at hk
 ·cases e
  refine .inr ⟨g,off+k * 2,cap - k,by simp,h2,by simp;omega,by omega,fun i r hi=>?_⟩
  rw [List.getElem?_drop] at hi
  have:=h5 (k+i) r hi
  rw [show off+k * 2+2 * i=off+2 * (k+i) by omega]
  exact this
theorem aG3(L:List (Int × Int))(k:Nat)(c:Int):(In (L.take k) c\/In (L.drop k) c) ↔ In L c:=by rw [<- bV,List.take_append_drop]
end Go.Proofs.YtpfdapnfkghgkaaGreatDoor
