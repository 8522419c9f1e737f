/-
  Parts of the proof.
-/
import Derived.Test.YticfnglebbakkaaGreatDoorPrintsProofB12
import Derived.Test.YticfnglebbakkaaGreatDoorPrintsProofB0
import Derived.Test.YticfnglebbakkaaGreatDoorPrintsProofB14
import Derived.Test.YticfnglebbakkaaGreatDoorPrintsProofB13
import Derived.Laws.BitsAllLaws
import Derived.Test.YticfnglebbakkaaGreatDoorPrintsProofB6
import Derived.Test.YticfnglebbakkaaGreatDoorPrintsProofB7
import Derived.Laws.AppendOwnNone
import Derived.Test.YticfnglebbakkaaGreatDoorPrintsProofB9
set_option maxRecDepth 100000
set_option maxHeartbeats 8000000
namespace Go.Proofs.YticfnglebbakkaaGreatDoor
open Go Go.RowKit
section
attribute [local go_sem] bC
abbrev sI:ByteArray:=⟨#[48,49,50,51,52,53,54,55,56,57]⟩
theorem tX{r:Nat}(h:r < 10):sI.extract r (r+1)=⟨#[UInt8.ofNat (48+r)]⟩:=by
 match r,h with
 | 0,_=>rfl
 | 1,_=>rfl
 | 2,_=>rfl
 | 3,_=>rfl
 | 4,_=>rfl
 | 5,_=>rfl
 | 6,_=>rfl
 | 7,_=>rfl
 | 8,_=>rfl
 | 9,_=>rfl
theorem aK3(l r:List UInt8):(⟨l.toArray⟩:ByteArray) ++ ⟨r.toArray⟩=⟨(l ++ r).toArray⟩:=by
 apply ByteArray.ext
 rw [ByteArray.data_append]
 simp
def ofL(l:List UInt8):ByteArray:=⟨l.toArray⟩
theorem xX(l:List UInt8):(ofL l).size=l.length:=by simp [ofL,ByteArray.size]
theorem aC5(l r:List UInt8):ofL l ++ ofL r=ofL (l ++ r):=aK3 l r
theorem aC9{n:Nat}(h:n < 9223372036854775808):(bB n).length<=19:=mK 19 n (by omega) (by omega)
theorem zD{n:Nat}(h:n < 10)(w:World):Calls Tryz.prog 94 #[.int .i64 (n:Int)] w fun e w'=>e=.returned (.string (ofL (bB n)))/\Below w.heap.size w w':=by
 have e:Hid (sI.extract n (n+1)=ofL (bB n)):=(tX h).trans (by rw [fH h];rfl)
 have i0:¬ (n:Int) < 0:=by omega
 have i1:(n:Int) < 10:=by omega
 have i2:(0:Int)<=(n:Int):=by omega
 have i3:(n:Int)<=(n:Int)+1:=by omega
 have i4:(n:Int)+1<=10:=by omega
 have i5:((n:Int)+1).toNat=n+1:=by omega
 have hw:IntKind.wrap .i64 ((n:Int)+1)=(n:Int)+1:=wrap_small _ (by omega) (by omega)
 generalize ofL (bB n)=DN at *
 go_enter Tryz.func94,Tryz.ntmps94
 go_wp2
 go_ret
 refine⟨?_,Below.refl _ _⟩
 exact congrArg (fun x=>Ending.returned (.string x)) e.out
theorem zE:∀ (k n:Nat),n<=k->n < 9223372036854775808->∀ w:World,Calls Tryz.prog 94 #[.int .i64 (n:Int)] w fun e w'=>e=.returned (.string (ofL (bB n)))/\Below w.heap.size w w'
 | k,n,hk,hn,w=>by
  by_cases h:n < 10
  ·exact zD h w
  cases k with
  | zero=>omega
  | succ k=>
   obtain⟨q,hq⟩:∃ q,q=n / 10:=⟨_,rfl⟩
   obtain⟨r,hr⟩:∃ r,r=n % 10:=⟨_,rfl⟩
   have ih:∀ W,Calls Tryz.prog 94 #[.int .i64 (q:Int)] W fun e w'=>e=.returned (.string (ofL (bB q)))/\Below W.heap.size W w':=fun W=>zE k q (by omega) (by omega) W
   have e:=tX (r:=r) (by omega)
   have i0:¬ (n:Int) < 0:=by omega
   have i1:¬ (n:Int) < 10:=by omega
   have t1:(n:Int).tdiv 10=(q:Int):=by rw [Int.tdiv_eq_ediv_of_nonneg (by omega)];omega
   have t2:(n:Int).tmod 10=(r:Int):=by rw [Int.tmod_eq_emod_of_nonneg (by omega)];omega
   have hw1:IntKind.wrap .i64 (q:Int)=(q:Int):=wrap_small _ (by omega) (by omega)
   have hw2:IntKind.wrap .i64 (r:Int)=(r:Int):=wrap_small _ (by omega) (by omega)
   have hw3:IntKind.wrap .i64 ((r:Int)+1)=(r:Int)+1:=wrap_small _ (by omega) (by omega)
   have i2:(0:Int)<=(r:Int):=by omega
   have i3:(r:Int)<=(r:Int)+1:=by omega
   have i4:(r:Int)+1<=10:=by omega
   have i5:((r:Int)+1).toNat=r+1:=by omega
   have E:Hid (ofL (bB q) ++ sI.extract r (r+1)=ofL (bB n)):=by
    show _=_
    rw [e,qT h,<- hq,<- hr]
    exact aC5 (bB q) [UInt8.ofNat (48+r)]
   have zq:(ofL (bB q)).size<=19:=by rw [xX];exact aC9 (by omega)
   generalize ofL (bB q)=DQ at *
   generalize ofL (bB n)=DN at *
   have zs:DQ.size+1<=9223372036854775807:=by omega
   have zt:(sI.extract r (r+1)).size=1:=by rw [e];rfl
   have hadd:∀ W:World,(binOp .add 9 (.string DQ) (.string (sI.extract r (r+1)))).run Tryz.prog W=.ok (.string (DQ ++ sI.extract r (r+1))) W:=fun W=>by
    have:DQ.size+(sI.extract r (r+1)).size<=9223372036854775807:=by omega
    simp [go_sem]
    omega
   clear hq hr e
   go_enter Tryz.func94,Tryz.ntmps94
   go_wp2
   refine wx9 ?_
   repeat (go_big_quiet_step (first | exact rfl |(go_at_call 94;exact cJ (ih _))))
   refine wpQuiet_nil ?_
   intro w5 hw5
   have B5:Hid (Below w.heap.size w w5):=aM hw5
   clear hw5
   go_wp2
   go_ret
   refine⟨?_,B5.out⟩
   exact congrArg (fun x=>Ending.returned (.string x)) E.out
theorem cY{n:Int}(h0:0<=n)(h1:n<=255)(w:World):Calls Tryz.prog 94 #[.int .i64 n] w fun e w'=>e=.returned (.string (txt (bB n.toNat)))/\Below w.heap.size w w':=by
 have:=zE n.toNat n.toNat lz9 (by omega) w
 rw [show ((n.toNat:Nat):Int)=n by omega] at this
 exact this
end
theorem vT{a b:Int}(h:dL a b=true)(w:World):Calls Tryz.prog 95 #[.int .i64 a,.int .i64 b] w fun e w'=>e=.returned (.string (txt (cD a b)))/\Below w.heap.size w w':=by
 have hb:(0<=a/\a<=255)/\(b=-1\/(a<=b/\b<=255)):=by simpa [dL] using h
 have DA:=aB (fun W=>cY hb.1.1 hb.1.2 W)
 have la:=cW hb.1.1 hb.1.2
 obtain⟨o,ho⟩:∃ o,cD a b=o:=⟨_,rfl⟩
 rw [ho]
 unfold cD at ho
 clear h
 by_cases h1:a=0/\b=-1
 ·rw [if_pos h1] at ho
  obtain⟨rfl,rfl⟩:=h1
  subst ho
  clear hb DA la
  go_enter Tryz.func95,Tryz.ntmps95
  go_wp2
  go_ret
  exact⟨rfl,Below.refl _ _⟩
 rw [if_neg h1] at ho
 by_cases h2:a=1/\b=-1
 ·rw [if_pos h2] at ho
  obtain⟨rfl,rfl⟩:=h2
  subst ho
  clear hb DA la h1
  go_enter Tryz.func95,Tryz.ntmps95
  go_wp2
  go_ret
  exact⟨rfl,Below.refl _ _⟩
 rw [if_neg h2] at ho
 by_cases h3:a=0/\b=1
 ·rw [if_pos h3] at ho
  obtain⟨rfl,rfl⟩:=h3
  subst ho
  clear hb DA la h1 h2
  go_enter Tryz.func95,Tryz.ntmps95
  go_wp2
  go_ret
  exact⟨rfl,Below.refl _ _⟩
 rw [if_neg h3] at ho
 have E:=aB ho
 clear ho
 by_cases h4:a=b
 ·subst h4
  have E2:Hid ([92,123] ++ bB a.toNat ++ [92,125]=o):=by show _=o;rw [<- E.out];simp
  clear E
  generalize bB a.toNat=D at DA la E2
  have z1:(txt D).size<=3:=by rw [aD];exact la
  have A1:(⟨#[92,123]⟩:ByteArray) ++ txt D=txt ([92,123] ++ D):=aI [92,123] D
  have A2:txt ([92,123] ++ D) ++ (⟨#[92,125]⟩:ByteArray)=txt ([92,123] ++ D ++ [92,125]):=aI _ [92,125]
  have z2:(txt ([92,123] ++ D)).size<=5:=by rw [aD];simp;omega
  rw [E2.out] at A2
  generalize [92,123] ++ D=D1 at A1 A2 z2
  have q0:(a==-1)=false:=by simp;omega
  have q1:(a==a)=true:=by simp
  have q2:(a==0)=true->(a==1)=false:=fun e=>by simp at e ⊢;omega
  clear hb h1 h2
  by_cases g0:a=0
  ·subst g0
   go_enter Tryz.func95,Tryz.ntmps95
   go_wp2_with (go_at_call 94;refine(DA.out _).mono ?_;rintro e w2 ⟨rfl,h2⟩;have B2:=aB h2;clear h2)
   all_goals first |(exfalso;rename_i hh;simp only [aD] at hh;omega) | skip
   go_ret
   exact⟨rfl,B2.out⟩
  ·have g1:(a==0)=false:=by simpa using g0
   clear q2
   by_cases g2:a=1
   ·subst g2
    go_enter Tryz.func95,Tryz.ntmps95
    go_wp2_with (go_at_call 94;refine(DA.out _).mono ?_;rintro e w2 ⟨rfl,h2⟩;have B2:=aB h2;clear h2)
    all_goals first |(exfalso;rename_i hh;simp only [aD] at hh;omega) | skip
    go_ret
    exact⟨rfl,B2.out⟩
   ·have g3:(a==1)=false:=by simpa using g2
    clear g0 g2 h3
    go_enter Tryz.func95,Tryz.ntmps95
    go_wp2_with (go_at_call 94;refine(DA.out _).mono ?_;rintro e w2 ⟨rfl,h2⟩;have B2:=aB h2;clear h2)
    all_goals first |(exfalso;rename_i hh;simp only [aD] at hh;omega) | skip
    go_ret
    exact⟨rfl,B2.out⟩
 have hab:(a==b)=false:=by simpa using h4
 by_cases h5:b=-1
 ·subst h5
  have E2:Hid ([92,123] ++ bB a.toNat ++ [44,92,125]=o):=by show _=o;rw [<- E.out,if_neg (show ¬ (-1:Int)=a by omega),if_pos rfl];simp
  clear E
  generalize bB a.toNat=D at DA la E2
  have z1:(txt D).size<=3:=by rw [aD];exact la
  have A1:(⟨#[92,123]⟩:ByteArray) ++ txt D=txt ([92,123] ++ D):=aI [92,123] D
  have A2:txt ([92,123] ++ D) ++ (⟨#[44,92,125]⟩:ByteArray)=txt ([92,123] ++ D ++ [44,92,125]):=aI _ [44,92,125]
  have z2:(txt ([92,123] ++ D)).size<=5:=by rw [aD];simp;omega
  rw [E2.out] at A2
  generalize [92,123] ++ D=D1 at A1 A2 z2
  have g0:(a==0)=false:=by simp;exact fun e=>h1 ⟨e,rfl⟩
  have g1:(a==1)=false:=by simp;exact fun e=>h2 ⟨e,rfl⟩
  clear hb h1 h2 h3 h4
  go_enter Tryz.func95,Tryz.ntmps95
  go_wp2_with (go_at_call 94;refine(DA.out _).mono ?_;rintro e w2 ⟨rfl,h2⟩;have B2:=aB h2;clear h2)
  all_goals first |(exfalso;rename_i hh;simp only [aD] at hh;omega) | skip
  go_ret
  exact⟨rfl,B2.out⟩
 ·have hb2:0<=b/\b<=255:=by omega
  have DB:=aB (fun W=>cY hb2.1 hb2.2 W)
  have lb:=cW hb2.1 hb2.2
  have E2:Hid ([92,123] ++ bB a.toNat ++ [44] ++ bB b.toNat ++ [92,125]=o):=by
   show _=o
   rw [<- E.out,if_neg (fun e=>h4 e.symm),if_neg h5]
   simp
  clear E
  have hbn:(b==-1)=false:=by simpa using h5
  have g3:(a==0)=true->(b==1)=false:=fun e=>by simp at e ⊢;exact fun q=>h3 ⟨e,q⟩
  generalize bB a.toNat=D at DA la E2
  generalize bB b.toNat=D' at DB lb E2
  have z1:(txt D).size<=3:=by rw [aD];exact la
  have z3:(txt D').size<=3:=by rw [aD];exact lb
  have A1:(⟨#[92,123]⟩:ByteArray) ++ txt D=txt ([92,123] ++ D):=aI [92,123] D
  have A2:txt ([92,123] ++ D) ++ (⟨#[44]⟩:ByteArray)=txt ([92,123] ++ D ++ [44]):=aI _ [44]
  have A3:txt ([92,123] ++ D ++ [44]) ++ txt D'=txt ([92,123] ++ D ++ [44] ++ D'):=aI _ _
  have A4:txt ([92,123] ++ D ++ [44] ++ D') ++ (⟨#[92,125]⟩:ByteArray)=txt ([92,123] ++ D ++ [44] ++ D' ++ [92,125]):=aI _ [92,125]
  have z2:(txt ([92,123] ++ D)).size<=5:=by rw [aD];simp;omega
  have z4:(txt ([92,123] ++ D ++ [44])).size<=6:=by rw [aD];simp;omega
  have z5:(txt ([92,123] ++ D ++ [44] ++ D')).size<=9:=by rw [aD];simp;omega
  rw [E2.out] at A4
  generalize [92,123] ++ D ++ [44] ++ D'=D3 at A3 A4 z5
  generalize [92,123] ++ D ++ [44]=D2 at A2 A3 z4
  generalize [92,123] ++ D=D1 at A1 A2 z2
  clear hb h1 h2 h3 h4 h5 hb2
  by_cases g0:a=0
  ·subst g0
   have g4:=g3 rfl
   clear g3
   go_enter Tryz.func95,Tryz.ntmps95
   go_wp2_with first
    |(go_at_call 94;(with_reducible refine(DA.out _).mono ?_);rintro e w2 ⟨rfl,h2⟩;have B2:=aB h2;clear h2)
    |(go_at_call 94;(with_reducible refine(DB.out _).mono ?_);rintro e w3 ⟨rfl,h3⟩;have B3:=aB (aG B2.out h3 lz9);clear h3)
   all_goals first |(exfalso;rename_i hh;simp only [aD] at hh;omega) | skip
   go_ret
   exact⟨rfl,B3.out⟩
  ·have g1:(a==0)=false:=by simpa using g0
   clear g3
   by_cases g2:a=1
   ·subst g2
    go_enter Tryz.func95,Tryz.ntmps95
    go_wp2_with first
     |(go_at_call 94;(with_reducible refine(DA.out _).mono ?_);rintro e w2 ⟨rfl,h2⟩;have B2:=aB h2;clear h2)
     |(go_at_call 94;(with_reducible refine(DB.out _).mono ?_);rintro e w3 ⟨rfl,h3⟩;have B3:=aB (aG B2.out h3 lz9);clear h3)
    all_goals first |(exfalso;rename_i hh;simp only [aD] at hh;omega) | skip
    go_ret
    exact⟨rfl,B3.out⟩
   ·have g3:(a==1)=false:=by simpa using g2
    clear g0 g2
    go_enter Tryz.func95,Tryz.ntmps95
    go_wp2_with first
     |(go_at_call 94;(with_reducible refine(DA.out _).mono ?_);rintro e w2 ⟨rfl,h2⟩;have B2:=aB h2;clear h2)
     |(go_at_call 94;(with_reducible refine(DB.out _).mono ?_);rintro e w3 ⟨rfl,h3⟩;have B3:=aB (aG B2.out h3 lz9);clear h3)
    all_goals first |(exfalso;rename_i hh;simp only [aD] at hh;omega) | skip
    go_ret
    exact⟨rfl,B3.out⟩
def yR:ByteArray:=⟨#[48,49,50,51,52,53,54,55,56,57,97,98,99,100,101,102]⟩
def gF(n:Nat):UInt8:=yR.get! n
def rG(b:UInt8):List UInt8:=[92,120,gF (b.toNat / 16),gF (b.toNat % 16)]
def cQ(l:List UInt8):List UInt8:=l.flatMap rG
theorem mP(a b:List UInt8):cQ (a ++ b)=cQ a ++ cQ b:=by simp [cQ]
theorem jW(l:List UInt8):(cQ l).length=4 * l.length:=by
 induction l with
 | nil=>rfl
 | cons a t ih=>simp only [cQ,List.flatMap_cons,List.length_append,List.length_cons] at ih ⊢;rw [ih];simp [rG];omega
theorem rC{n:Nat}(h:n < 16):yR[n]'h=gF n:=by
 unfold gF
 rw [ByteArray.get!,getElem!_pos yR.data n h];rfl
theorem pR(u:ByteArray)(cap k:Nat)(h:k < u.size):(bytesRow u cap)[k]?=some (.int .u8 ((u.data.toList[k]'(by rw [bG];exact h)).toNat:Int)):=by
 have:=bytesRow_at u cap k (by rw [<- ByteArray.size];exact h)
 simpa using this
theorem aL4(W:World)(a b c d:Value)(t:TypeId):∀ (j:Nat) (u:Value),[a,b,c,d][j]?=some u->(W.alloc (.cells #[a,b,c,d] t)).cell? ((⟨W.heap.size,0,none⟩:Addr).add j)=some u:=by
 intro j u h
 match j,h with
 | 0,h=>simp at h;subst h;simp [Addr.add]
 | 1,h=>simp at h;subst h;simp [Addr.add]
 | 2,h=>simp at h;subst h;simp [Addr.add]
 | 3,h=>simp at h;subst h;simp [Addr.add]
def ow(v:Value)(z:Nat):Prop:=v.ownBlock=some z
theorem aD7{w wr w6:World}{v t:Value}(F:Fr (ow v) w wr)(M:moved v t w.heap.size)(K:Fr (ow t) wr w6):Fr (ow v) w w6:=
 ⟨K.os.trans F.os,K.tape.trans F.tape,K.output.trans F.output,Nat.le_trans F.size K.size,fun i hi hs=>(K.block i (Nat.lt_of_lt_of_le hi F.size) (fun q=>hs (gB M hi q))).trans (F.block i hi hs)⟩
theorem vU{v v':Value}{n m:Nat}(h:v'.ownBlock=v.ownBlock\/v'.ownBlock=some m)(hm:n<=m):moved v v' n:=by
 rcases h with h | h
 ·exact .inl h
 ·exact .inr (.inr ⟨m,hm,h⟩)
theorem kE{base:Nat}{w:World}{v:Value}{a:List UInt8}(u:ByteArray)(h:OB base w v a)(hu:u.size<=4)(ha:a.length<=70368744177664)(hbase:base<=w.heap.size) :
  Calls Tryz.prog 127 #[v,.string u] w fun e w'=>∃ v',e=.returned v'/\OB base w' v' (a ++ cQ u.data.toList)/\Fr (ow v) w w'/\moved v v' w.heap.size:=by
 obtain⟨t0,hi,hz0,hz1,hz2⟩:=aQ jF
 have H:Hid (OB base w v a):=h
 have hcv:=run_bytes_of_string (P:=Tryz.prog) w 9 52 5 u Tryz.underlying9 Tryz.underlying52 Tryz.underlying5
 obtain⟨cap,hcap⟩:∃ cap,grownCap w u.size 0 5=cap:=⟨_,rfl⟩
 rw [hcap] at hcv
 obtain⟨o8,ho8⟩:∃ o,Obj.cells (bytesRow u cap) 5 ((bytesRow u cap).size,(bytesRow u cap).size+1)=o:=⟨_,rfl⟩
 rw [ho8] at hcv
 have HO:Hid (Obj.cells (bytesRow u cap) 5 ((bytesRow u cap).size,(bytesRow u cap).size+1)=o8):=ho8
 clear hcap ho8 h
 obtain⟨q,c,rfl⟩:=aL H.out
 go_enter Tryz.func127,Tryz.ntmps127
 go_wp2
 go_loopw [0,10] (fun t i wr=>∃ k:Nat,k<=u.size/\i=.int .i64 (k:Int)/\OB base wr t (a ++ cQ (u.data.toList.take k))/\Fr (ow (Value.slice q a.length c)) w wr/\moved (.slice q a.length c) t w.heap.size/\t.ownBlock≠some w.heap.size/\wr.heap[w.heap.size]?=some o8) (fun _ i _=>u.size - (intOf i).toNat)
 case atStart=>
  refine⟨0,Nat.zero_le _,rfl,by have:=World.ownsRow.drew (World.ownsRow.alloc H.out o8);simpa [cQ] using this,((Fr.refl _ w).alloc _).drew,moved.refl _ _,fun e=>?_,aF w o8⟩
  have:=(aH H.out e).2.1
  omega
 case round=>
  obtain⟨k,hk,rfl,hO,hF,hM,hN,hG⟩:=hrel
  obtain⟨qr,cr,rfl⟩:=aL hO
  have O:Hid _:=hO
  have F:Hid _:=hF
  have M:Hid _:=hM
  have N:Hid _:=hN
  have G:Hid _:=hG
  have hlen:(a ++ cQ (u.data.toList.take k)).length=a.length+4 * k:=by
   rw [List.length_append,jW,List.length_take,bG];omega
  have hsz:=hF.size
  have hgs:=aC hG
  clear hO hF hM hN hG
  rw [hlen] at O N M ⊢
  by_cases hlt:k < u.size
  ·obtain⟨b,hb⟩:∃ b,u.data.toList[k]'(by rw [bG];exact hlt)=b:=⟨_,rfl⟩
   have hcell:wr.cell? ⟨w.heap.size,k,none⟩=some (.int .u8 (b.toNat:Int)):=by
    have:=pR u cap k hlt
    rw [hb] at this
    have e:=G.out
    rw [<- HO.out] at e
    simp [World.cell?,e,this]
   have htk:Hid (u.data.toList.take (k+1)=u.data.toList.take k ++ [b]):=by
    show u.data.toList.take (k+1)=u.data.toList.take k ++ [b]
    rw [<- hb]
    exact bL _ k (by rw [bG];exact hlt)
   clear hb
   have i0:(0:Int)<=(k:Int):=by omega
   have i1:(k:Int) < (u.size:Int):=by omega
   have hwr:IntKind.wrap .i64 ((k:Int)+1)=(k:Int)+1:=wrap_small _ (by omega) (by omega)
   have hbl:b.toNat < 256:=b.toNat_lt
   obtain⟨x,hx⟩:∃ x,b.toNat / 16=x:=⟨_,rfl⟩
   obtain⟨y,hy⟩:∃ y,b.toNat % 16=y:=⟨_,rfl⟩
   have hxl:x < 16:=by omega
   have hyl:y < 16:=by omega
   have e16:(b.toNat:Int) / 16=(x:Int):=by omega
   have eand:bits .and .u8 (b.toNat:Int) 15=(y:Int):=by
    have:=u8_and_nat b.toNat 15 hbl (by omega)
    rw [Nat.and_two_pow_sub_one_eq_mod b.toNat 4] at this
    simpa [hy] using this
   have edx:(⟨#[48,49,50,51,52,53,54,55,56,57,97,98,99,100,101,102]⟩:ByteArray)[x]'(hxl)=gF x:=rC hxl
   have edy:(⟨#[48,49,50,51,52,53,54,55,56,57,97,98,99,100,101,102]⟩:ByteArray)[y]'(hyl)=gF y:=rC hyl
   have HE:Hid (rG b=[92,120,gF x,gF y]):=by
    show rG b=[92,120,gF x,gF y]
    rw [rG,hx,hy]
   clear hx hy
   obtain⟨dx,hdx⟩:∃ d,gF x=d:=⟨_,rfl⟩
   obtain⟨dy,hdy⟩:∃ d,gF y=d:=⟨_,rfl⟩
   rw [hdx] at edx HE
   rw [hdy] at edy HE
   clear hdx hdy
   have x0:(0:Int)<=(x:Int):=by omega
   have x1:(x:Int) < 16:=by omega
   have y0:(0:Int)<=(y:Int):=by omega
   have y1:(y:Int) < 16:=by omega
   go_wp2
   go_region_law (refine cO rfl _ _ 52 rfl base 5 t0 (.int .u8 0) 1 1 gQ hi hz0 hz1 hz2 rfl (by decide) (.slice qr (a.length+4 * k) cr) (a.length+4 * k) _ (by simp [Act.eval]) (World.ownsRow.drew (World.ownsRow.alloc O.out _)) ⟨wr.heap.size,0,none⟩ 4 4 [.int .u8 92,.int .u8 120,.int .u8 (dx.toNat:Int),.int .u8 (dy.toNat:Int)] (by simp [Act.eval]) rfl (aL4 _ _ _ _ _ _) (by simp [Value.oneCell']) (by unfold maxLen;omega) (by omega) (by simp;omega) ?_;intro v' w6 hown' hgrow hblk;have F6:Hid (Fr (ow (.slice qr (a.length+4 * k) cr)) wr w6):=(((Fr.refl _ wr).alloc _).drew).grown hgrow (fun z hz=>hz);have M6:Hid (moved (.slice qr (a.length+4 * k) cr) v' wr.heap.size):=vU hblk (by simp);have O6:Hid _:=hown';have N6:Hid (v'.ownBlock≠some w.heap.size):=(by show v'.ownBlock≠some w.heap.size;rcases hblk with z | z;rw [z];exact N.out;rw [z];intro z2;simp at z2;omega);clear hown' hgrow hblk)
   all_goals go_wp2
   all_goals
    refine⟨⟨k+1,by omega,by go_num,?_,aD7 F.out M.out F6.out,moved.trans M.out M6.out hsz,N6.out,(F6.out.block _ hgs N.out).trans G.out⟩,by simp [intOf];omega⟩
    have:=O6.out
    have e:(a ++ cQ (u.data.toList.take (k+1))).length=a.length+4 * k+4:=by rw [htk.out,mP,<- List.append_assoc,List.length_append,hlen];rfl
    show World.ownsRow _ _ _ _ _ (a ++ cQ (u.data.toList.take (k+1))).length _
    rw [e,htk.out,mP,<- List.append_assoc,Lib.byteCells_append (a ++ _)]
    have e2:cQ [b]=[92,120,dx,dy]:=by rw [<- HE.out];simp [cQ]
    rw [e2]
    exact this
  ·obtain rfl:k=u.size:=by omega
   have i1:¬ ((u.size:Nat):Int) < (u.size:Int):=by omega
   have O1:=O.out
   rw [List.take_of_length_le (by rw [bG];exact Nat.le_refl _)] at O1
   have O2:Hid _:=O1
   clear O1
   go_wp2
   go_ret
   refine⟨_,rfl,?_,F.out,M.out⟩
   have e:(a ++ cQ u.data.toList).length=a.length+4 * u.size:=by rw [List.length_append,jW,bG]
   show World.ownsRow _ _ _ _ _ (a ++ cQ u.data.toList).length _
   rw [e]
   exact O2.out
def bH(c:Int):Bool:=decide ((32<=c/\c<=126)\/159 < c)
def shU(s:ByteArray)(p:Nat):List UInt8:=
 if ch s p=92 then [92,92] else if ch s p=10 then [92,110] else if bH (ch s p) then sl s p (wd s p) else cQ (sl s p (wd s p))
def dU(s:ByteArray)(l:List (Nat × Int)):List UInt8:=l.flatMap fun u=>shU s u.1
def dT(s:ByteArray):List UInt8:=dU s (us s)
theorem jH(s:ByteArray)(l:List (Nat × Int))(p:Nat)(c:Int):dU s (l ++ [(p,c)])=dU s l ++ shU s p:=by simp [dU]
theorem wZ(s:ByteArray)(p n:Nat):(sl s p n).length<=n:=by simp [sl];omega
theorem oX(s:ByteArray)(p:Nat):(shU s p).length<=4 * wd s p:=by
 have:=sC s p
 have:=wZ s p (wd s p)
 unfold shU
 split
 ·simp;omega
 split
 ·simp;omega
 split
 ·omega
 ·rw [jW];omega
theorem pL(s:ByteArray)(p n:Nat):(s.extract p (p+n)).data.toList=sl s p n:=by
 rw [ByteArray.data_extract,Array.toList_extract,List.extract_eq_take_drop]
 unfold sl
 congr 1
 omega
theorem vY(c:Int)(w:World):Calls Tryz.prog 123 #[.int .i32 c] w fun e w'=>e=.returned (.bool (bH c))/\w'=w:=by
 by_cases h0:32<=c
 ·by_cases h1:c<=126
  ·have hc:Hid (bH c=true):=by show bH c=true;simp [bH];omega
   go_enter Tryz.func123,Tryz.ntmps123
   go_wp2
   go_ret
   exact⟨by rw [hc.out];rfl,rfl⟩
  ·by_cases h2:159 < c
   ·have hc:Hid (bH c=true):=by show bH c=true;simp [bH];omega
    go_enter Tryz.func123,Tryz.ntmps123
    go_wp2
    go_ret
    exact⟨by rw [hc.out];rfl,rfl⟩
   ·have hc:Hid (bH c=false):=by show bH c=false;simp [bH];omega
    go_enter Tryz.func123,Tryz.ntmps123
    go_wp2
    go_ret
    exact⟨by rw [hc.out];rfl,rfl⟩
 ·have h2:¬ 159 < c:=by omega
  have hc:Hid (bH c=false):=by show bH c=false;simp [bH];omega
  go_enter Tryz.func123,Tryz.ntmps123
  go_wp2
  go_ret
  exact⟨by rw [hc.out];rfl,rfl⟩
theorem Tabs.below{n:Nat}{w w':World}(h:Tabs w)(hb:Below n w w')(hn:3 < n):Tabs w':=h.to (hb.block 2 (by omega)) (hb.block 3 hn)
theorem RI5.fr{s:ByteArray}{w wr w6:World}{k pos n m:Nat}{e:TypeId}{v v':Value}{L M:List Value}(h:RI5 s w k pos e v n L wr)(hown:w6.ownsRow w.heap.size e 1 v' m M)(hf:Fr (ow v) wr w6):RI5 s w k pos e v' m M w6:=by
 refine⟨h.lo,?_,hown,cL h.bel hf lz9 (fun z hz=>(aH h.own hz).1)⟩
 rw [hf.block k (aC h.it) (fun q=>?_)]
 ·exact h.it
 ·obtain⟨_,_,cur,hc⟩:=aH h.own q
  rw [h.it] at hc;cases hc
theorem RI5.then{s:ByteArray}{w wr w6:World}{k pos n:Nat}{e:TypeId}{v:Value}{L:List Value}(h:RI5 s w k pos e v n L wr)(hb:Below wr.heap.size wr w6):RI5 s w k pos e v n L w6:=
 ⟨h.lo,(hb.block k (aC h.it)).trans h.it,aO h.own (Fr.of_below (S:=fun _=>False) hb) (fun _ _ q=>q),aG h.bel hb lz9⟩
theorem zY(s:ByteArray)(w:World)(hT:Tabs w)(hs:s.size<=1099511627776) :
  Calls Tryz.prog 85 #[.string s] w fun e w'=>e=.returned (.string (txt (dT s)))/\Below w.heap.size w w':=by
 obtain⟨t0,hi,hz0,hz1,hz2⟩:=aQ jF
 have HT:Hid (Tabs w):=hT
 have hT2:=hT.blocks.2
 clear hT
 go_enter Tryz.func85,Tryz.ntmps85
 go_wp2
 go_loopw [3] (fun t wr=>∃ (pos f:Nat) (acc:List (Nat × Int)),RI5 s w w.heap.size pos 5 t (dU s acc).length (Lib.byteCells (dU s acc)) wr/\acc ++ dF s f pos=us s/\s.size<=pos+f/\(dU s acc).length<=4 * pos) (fun _ wr=>s.size - wr.iterPos w.heap.size)
 case atStart=>exact⟨0,s.size,[],⟨Nat.le_refl _,World.iter_heap w s 0,World.ownsRow_nil _ _ _ _,(Below.refl _ w).alloc lz9 _⟩,rfl,by omega,by simp [dU]⟩
 case round=>
  obtain⟨pos,f,acc,hR,hacc,hfu,hap⟩:=hrel
  obtain⟨L,hL⟩:∃ L,dU s acc=L:=⟨_,rfl⟩
  rw [hL] at hR hap
  have HL:Hid (dU s acc=L):=hL
  clear hL
  obtain⟨q,c,rfl⟩:=aL hR.own
  have R:Hid (RI5 s w w.heap.size pos 5 (.slice q L.length c) L.length (Lib.byteCells L) wr):=hR
  have A:Hid (acc ++ dF s f pos=us s):=hacc
  have hit:=hR.it
  have hsz:=hR.len
  clear hR hacc
  by_cases hp:pos < s.size
  ·obtain⟨W2,hW2⟩:∃ W2,wr.iterAt w.heap.size s (pos+wd s pos)=W2:=⟨_,rfl⟩
   have hnx:∀ ty,(Instr.next (.pointer (some ⟨w.heap.size,0,none⟩)) true ty).run Tryz.prog wr=.ok (.tuple #[.bool true,.int .i64 (pos:Int),.int .i32 ((Utf8.decode s pos).1:Int)]) W2:=fun ty=>by rw [<- hW2];exact Lib.run_next_any_at wr w.heap.size s pos ty hit hp
   have R2:Hid (RI5 s w w.heap.size (pos+wd s pos) 5 (.slice q L.length c) L.length (Lib.byteCells L) W2):=by rw [<- hW2];exact R.out.next (pos+wd s pos)
   clear hW2
   obtain⟨f,rfl⟩:∃ g,f=g+1:=⟨f - 1,by omega⟩
   have A2:=A.out
   rw [iK s f pos hp] at A2
   have A3:Hid (acc ++ ((pos,ch s pos) :: dF s f (pos+wd s pos))=us s):=A2
   have hw:=sC s pos
   have hwd:=(pZ s pos hp).2
   have hw4:=(pZ s pos hp).1
   have I:Hid (wr.heap[w.heap.size]?=some (.stringIter s pos)):=hit
   have hc:=rT s pos
   have hdl:=zF s pos
   have hT2':Hid (Tabs W2):=HT.out.below R2.out.bel hT2
   have hnx2:=aC6 s pos W2 hT2'.out hp (by unfold maxLen;omega)
   have HES:Hid (bad s pos=false->Lib.encodeRune ((Utf8.decode s pos).1:Int)=sl s pos (wd s pos)):=pO s pos hp
   have HCG:Hid (bad s pos=false->ch s pos=(Utf8.decode s pos).1):=iA
   have HCB:Hid (bad s pos=true->ch s pos=-1/\(Utf8.decode s pos).1=65533):=fun h=>⟨(mV h).1,(mV h).2.2⟩
   have hlen5:=oX s pos
   clear A2 hit
   have hsz2:=R2.out.len
   obtain⟨r,hr⟩:∃ r,(Utf8.decode s pos).1=r:=⟨_,rfl⟩
   rw [hr] at hnx hc hdl HES HCG HCB
   clear hr
   obtain⟨wp,hwp⟩:∃ x,wd s pos=x:=⟨_,rfl⟩
   rw [hwp] at hnx2 A3 R2 hw hwd hw4 hlen5 HES
   have N3:Hid (Calls Tryz.prog 126 #[.string s,.int .i64 (pos:Int)] W2 fun e w'=>e=.returned (.tuple #[.int .i64 (ch s pos),.int .i64 (wp:Int)])/\Below W2.heap.size W2 w'):=hnx2
   have HW:Hid (wd s pos=wp):=hwp
   clear hnx2 hwp
   -- what each way must leave
   have fin:Hid (∀ (w6:World) (v6:Value),RI5 s w w.heap.size (pos+wp) 5 v6 (L.length+(shU s pos).length) (Lib.byteCells (L ++ shU s pos)) w6 ->
     ∃ (pos' f':Nat) (acc':List (Nat × Int)),RI5 s w w.heap.size pos' 5 v6 (dU s acc').length (Lib.byteCells (dU s acc')) w6/\acc' ++ dF s f' pos'=us s/\s.size<=pos'+f'/\(dU s acc').length<=4 * pos'):=fun w6 v6 h=>by
    refine⟨pos+wp,f,acc ++ [(pos,ch s pos)],?_,by rw [<- A3.out];simp,by omega,?_⟩
    ·rw [jH,HL.out,List.length_append];exact h
    ·rw [jH,HL.out,List.length_append];omega
   by_cases h92:r=92
   ·subst h92
    have hch:Hid (shU s pos=[92,92]):=by
     show shU s pos=[92,92]
     have hb:bad s pos=false:=by
      rcases hb:bad s pos with _ | _
      ·rfl
      ·have:=(HCB.out hb).2;omega
     have:ch s pos=92:=HCG.out hb
     unfold shU
     rw [if_pos this]
    go_wp2_with (at_builtin;refine wpList_append_own_at _ rfl _ _ 52 rfl w.heap.size 5 t0 (.int .u8 0) 1 1 gQ hi hz0 hz1 hz2 rfl (by decide) (.slice q L.length c) L.length (Lib.byteCells L) rfl (World.ownsRow.alloc R2.out.own (.cells #[.int .u8 92,.int .u8 92] 5)) ⟨W2.heap.size,0,none⟩ 2 2 [.int .u8 92,.int .u8 92] rfl rfl (eA _ _ _ _) (by simp [Value.oneCell']) (by unfold maxLen;omega) (by omega) (by simp;omega) ?_;intro v' w6 hown' hgrow _ hblk;obtain⟨g6,cap6,rfl⟩:=aJ hown' (Nat.succ_pos _);have R6:Hid (RI5 s w w.heap.size (pos+wp) 5 (.slice (some ⟨g6,0,none⟩) (L.length+2) cap6) (L.length+2) (Lib.byteCells L ++ [.int .u8 92,.int .u8 92]) w6):=R2.out.app hown' hgrow;clear hown' hgrow hblk)
    go_roundw
    case rel=>
     refine fin.out _ _ ?_
     rw [hch.out,Lib.byteCells_append]
     exact R6.out
    case measure=>
     simp only [World.iterPos,R6.out.it,I.out]
     omega
   have b92:((r:Int)==92)=false:=by simp;omega
   by_cases h10:r=10
   ·subst h10
    have hch:Hid (shU s pos=[92,110]):=by
     show shU s pos=[92,110]
     have hb:bad s pos=false:=by
      rcases hb:bad s pos with _ | _
      ·rfl
      ·have:=(HCB.out hb).2;omega
     have:ch s pos=10:=HCG.out hb
     unfold shU
     rw [if_neg (by rw [this];decide),if_pos this]
    go_wp2_with (at_builtin;refine wpList_append_own_at _ rfl _ _ 52 rfl w.heap.size 5 t0 (.int .u8 0) 1 1 gQ hi hz0 hz1 hz2 rfl (by decide) (.slice q L.length c) L.length (Lib.byteCells L) rfl (World.ownsRow.alloc R2.out.own (.cells #[.int .u8 92,.int .u8 110] 5)) ⟨W2.heap.size,0,none⟩ 2 2 [.int .u8 92,.int .u8 110] rfl rfl (eA _ _ _ _) (by simp [Value.oneCell']) (by unfold maxLen;omega) (by omega) (by simp;omega) ?_;intro v' w6 hown' hgrow _ hblk;obtain⟨g6,cap6,rfl⟩:=aJ hown' (Nat.succ_pos _);have R6:Hid (RI5 s w w.heap.size (pos+wp) 5 (.slice (some ⟨g6,0,none⟩) (L.length+2) cap6) (L.length+2) (Lib.byteCells L ++ [.int .u8 92,.int .u8 110]) w6):=R2.out.app hown' hgrow;clear hown' hgrow hblk)
    go_roundw
    case rel=>
     refine fin.out _ _ ?_
     rw [hch.out,Lib.byteCells_append]
     exact R6.out
    case measure=>
     simp only [World.iterPos,R6.out.it,I.out]
     omega
   have b10:((r:Int)==10)=false:=by simp;omega
   have hpl:=vY (r:Int)
   have h0:(0:Int)<=(pos:Int):=by omega
   have h1:((pos+wp:Nat):Int)=(pos:Int)+(wp:Int):=by omega
   have hwr:IntKind.wrap .i64 ((pos:Int)+(wp:Int))=(pos:Int)+(wp:Int):=wrap_small _ (by omega) (by omega)
   have hle1:(pos:Int)<=(pos:Int)+(wp:Int):=by omega
   have hle2:(pos:Int)+(wp:Int)<=(s.size:Int):=by omega
   have htn:((pos:Int)+(wp:Int)).toNat=pos+wp:=by omega
   rcases hpb:bH (r:Int) with _ | _
   ·-- no character that is told as it is
    rw [hpb] at hpl
    have hch:Hid (shU s pos=cQ (sl s pos wp)):=by
     show shU s pos=cQ (sl s pos wp)
     have hne:ch s pos≠92/\ch s pos≠10/\bH (ch s pos)=false:=by
      rcases hb:bad s pos with _ | _
      ·rw [HCG.out hb];exact⟨by omega,by omega,hpb⟩
      ·have:=(HCB.out hb).2
       subst this
       simp [bH] at hpb
     unfold shU
     rw [if_neg hne.1,if_neg hne.2.1,hne.2.2,HW.out];rfl
    go_wp2_with first
     |(go_at_call 123;(with_reducible refine(hpl _).mono ?_);rintro e w5 ⟨rfl,h5⟩;subst w5)
     |(go_at_call 126;(with_reducible refine(Calls.mono N3.out ?_));rintro e w5 ⟨rfl,h5⟩;have R5:Hid (RI5 s w w.heap.size (pos+wp) 5 (.slice q L.length c) L.length (Lib.byteCells L) w5):=R2.out.then h5;have z5:=R5.out.len;clear h5)
     |(go_at_call 127;(refine(kE (a:=L) (s.extract pos (pos+wp)) R5.out.own (by rw [ByteArray.size_extract];omega) (by omega) z5).mono ?_);rw [pL];rintro e w6 ⟨v6,rfl,o6,f6,m6⟩;have R6:Hid (RI5 s w w.heap.size (pos+wp) 5 v6 (L ++ cQ (sl s pos wp)).length (Lib.byteCells (L ++ cQ (sl s pos wp))) w6):=R5.out.fr o6 f6;clear o6 f6 m6)
    go_roundw
    case rel=>
     refine fin.out _ _ ?_
     rw [hch.out,<- List.length_append]
     exact R6.out
    case measure=>
     simp only [World.iterPos,R6.out.it,I.out]
     omega
   ·rw [hpb] at hpl
    rcases hb:bad s pos with _ | _
    ·rw [hb] at hc
     have hch:Hid (shU s pos=Lib.encodeRune (r:Int)):=by
      show shU s pos=Lib.encodeRune (r:Int)
      rw [HES.out hb]
      have e:=HCG.out hb
      unfold shU
      rw [if_neg (by rw [e];omega),if_neg (by rw [e];omega),e,hpb,HW.out];rfl
     go_wp2_with first
      |(go_at_call 123;(with_reducible refine(hpl _).mono ?_);rintro e w5 ⟨rfl,h5⟩;subst w5)
      |(go_at_call 124;(with_reducible refine(hc _ hp).mono ?_);rintro e w5 ⟨rfl,h5⟩;subst w5)
      |(go_at_call 125;(refine(Tryz.utf8_AppendRune_plain w.heap.size _ L.length _ (r:Int) (by omega) (by omega) _ R2.out.own (by omega) hsz2).mono ?_);rintro e w6 ⟨v6,rfl,hown6,ob,hg6⟩;have R6:Hid (RI5 s w w.heap.size (pos+wp) 5 v6 (L.length+(Lib.runeCells (r:Int)).length) (Lib.byteCells L ++ Lib.runeCells (r:Int)) w6):=R2.out.app hown6 hg6;clear hown6 hg6)
     go_roundw
     case rel=>
      refine fin.out _ _ ?_
      rw [hch.out,Lib.byteCells_append,Lib.byteCells_encodeRune,<- Lib.runeCells_length]
      exact R6.out
     case measure=>
      simp only [World.iterPos,R6.out.it,I.out]
      omega
    ·rw [hb] at hc
     have hch:Hid (shU s pos=cQ (sl s pos wp)):=by
      show shU s pos=cQ (sl s pos wp)
      have e:=(HCB.out hb).1
      unfold shU
      rw [if_neg (by rw [e];decide),if_neg (by rw [e];decide),e,HW.out];rfl
     go_wp2_with first
      |(go_at_call 123;(with_reducible refine(hpl _).mono ?_);rintro e w5 ⟨rfl,h5⟩;subst w5)
      |(go_at_call 124;(with_reducible refine(hc _ hp).mono ?_);rintro e w5 ⟨rfl,h5⟩;subst w5)
      |(go_at_call 126;(with_reducible refine(Calls.mono N3.out ?_));rintro e w5 ⟨rfl,h5⟩;have R5:Hid (RI5 s w w.heap.size (pos+wp) 5 (.slice q L.length c) L.length (Lib.byteCells L) w5):=R2.out.then h5;have z5:=R5.out.len;clear h5)
      |(go_at_call 127;(refine(kE (a:=L) (s.extract pos (pos+wp)) R5.out.own (by rw [ByteArray.size_extract];omega) (by omega) z5).mono ?_);rw [pL];rintro e w6 ⟨v6,rfl,o6,f6,m6⟩;have R6:Hid (RI5 s w w.heap.size (pos+wp) 5 v6 (L ++ cQ (sl s pos wp)).length (Lib.byteCells (L ++ cQ (sl s pos wp))) w6):=R5.out.fr o6 f6;clear o6 f6 m6)
     go_roundw
     case rel=>
      refine fin.out _ _ ?_
      rw [hch.out,<- List.length_append]
      exact R6.out
     case measure=>
      simp only [World.iterPos,R6.out.it,I.out]
      omega
  ·have hnx:∀ ty,(Instr.next (.pointer (some ⟨w.heap.size,0,none⟩)) true ty).run Tryz.prog wr=_:=fun ty=>Lib.run_next_end_at wr w.heap.size s pos ty hit hp
   have A2:=A.out
   rw [kG s f pos hp,List.append_nil] at A2
   have A3:Hid (dT s=L):=by show dT s=L;rw [dT,<- A2,HL.out]
   have hcv:=rN R.out.own
   clear hit A2
   go_wp2
   go_ret
   rw [A3.out]
   exact⟨rfl,R.out.bel⟩
def isC(c:Int):Bool:=decide (0<=c/\c<=1114111/\(c < 55296\/57343 < c))
theorem pS(s:ByteArray)(i:Nat)(h:i < s.size):(s[i]'h).toNat=bt s i:=by
 have e:s.data.toList[i]?=some (s.data.toList[i]'(by rw [bG];exact h)):=List.getElem?_eq_getElem _
 unfold bt
 rw [List.getD_eq_getElem?_getD,e]
 rfl
theorem dO{s:ByteArray}{p:Nat}(hb:bad s p=false):(bt s p < 128/\Utf8.decode s p=(bt s p,1)) \/
  (1 < s.size - p/\bt s p / 32=6/\bt s (p+1) / 64=2/\128<=bt s p % 32 * 64+bt s (p+1) % 64/\Utf8.decode s p=(bt s p % 32 * 64+bt s (p+1) % 64,2)) \/
  (2 < s.size - p/\bt s p / 16=14/\bt s (p+1) / 64=2/\bt s (p+2) / 64=2/\2048<=bt s p % 16 * 4096+bt s (p+1) % 64 * 64+bt s (p+2) % 64/\Utf8.decode s p=(bt s p % 16 * 4096+bt s (p+1) % 64 * 64+bt s (p+2) % 64,3)) \/
  (3 < s.size - p/\bt s p / 8=30/\bt s (p+1) / 64=2/\bt s (p+2) / 64=2/\bt s (p+3) / 64=2/\65536<=bt s p % 8 * 262144+bt s (p+1) % 64 * 4096+bt s (p+2) % 64 * 64+bt s (p+3) % 64/\Utf8.decode s p=(bt s p % 8 * 262144+bt s (p+1) % 64 * 4096+bt s (p+2) % 64 * 64+bt s (p+3) % 64,4)):=by
 have hn:Utf8.decode s p≠(65533,1):=by simpa [bad] using hb
 have e:=fK s p
 rcases fL (s.size - p) (bt s p) (bt s (p+1)) (bt s (p+2)) (bt s (p+3)) with k | ⟨a1,k⟩ | ⟨a1,a2,a3,a4,k⟩ | ⟨a1,a2,a3,a4,a5,a6,k⟩ | ⟨a1,a2,a3,a4,a5,a6,a7,k⟩
 ·rw [k] at e;exact absurd e hn
 ·rw [k] at e;exact .inl ⟨a1,e⟩
 ·rw [k] at e;exact .inr (.inl ⟨a1,a2,a3,a4,e⟩)
 ·rw [k] at e;exact .inr (.inr (.inl ⟨a1,a2,a3,a4,a5,e⟩))
 ·rw [k] at e;exact .inr (.inr (.inr ⟨a1,a2,a3,a4,a5,a6,e⟩))
def wM(b0 n:Nat)(c0:Int):Prop:=(n=2/\192<=b0/\b0 < 224/\c0=b0 - 192)\/(n=3/\224<=b0/\b0 < 240/\c0=b0 - 224)\/(n=4/\240<=b0/\b0 < 248/\c0=b0 - 240)
def cvF(s:ByteArray)(p:Nat)(c0:Int):Nat->Int
 | 0=>c0
 | j+1=>64 * cvF s p c0 j+bt s (p+(j+1)) - 128
def lL(s:ByteArray)(p k:Nat):Prop:=∀ j,1<=j->j < k->128<=bt s (p+j)/\bt s (p+j)<=191
theorem kZ{s:ByteArray}{p:Nat}{c0:Int}(h0:0<=c0)(h1:c0<=31):∀ j,j<=3->lL s p (j+1)->0<=cvF s p c0 j/\cvF s p c0 j < 16777216
 | 0,_,_=>by simp [cvF];omega
 | 1,_,hc=>by have c1:=hc 1 (by omega) (by omega);simp only [cvF,Nat.zero_add];omega
 | 2,_,hc=>by have c1:=hc 1 (by omega) (by omega);have c2:=hc 2 (by omega) (by omega);simp only [cvF,Nat.zero_add,Nat.reduceAdd];omega
 | 3,_,hc=>by have c1:=hc 1 (by omega) (by omega);have c2:=hc 2 (by omega) (by omega);have c3:=hc 3 (by omega) (by omega);simp only [cvF,Nat.zero_add,Nat.reduceAdd];omega
theorem zQ{s:ByteArray}{p:Nat}(h:(128<=bt s p/\bt s p < 192)\/248<=bt s p):bad s p=true:=by
 rcases hb:bad s p with _ | _
 ·exfalso
  have:=iJ s p
  rcases dO hb with⟨a1,_⟩ | ⟨_,a2,_⟩ | ⟨_,a2,_⟩ | ⟨_,a2,_⟩ <;> omega
 ·rfl
theorem lB{s:ByteArray}{p n:Nat}{c0:Int}(h:wM (bt s p) n c0)(hn:s.size - p < n):bad s p=true:=by
 rcases hb:bad s p with _ | _
 ·exfalso
  rcases h with h | h | h <;> rcases dO hb with⟨a1,_⟩ | ⟨_,a2,_⟩ | ⟨_,a2,_⟩ | ⟨_,a2,_⟩ <;> omega
 ·rfl
theorem fC{s:ByteArray}{p n j:Nat}{c0:Int}(h:wM (bt s p) n c0)(h1:1<=j)(hj:j < n)(hb':bt s (p+j) < 128\/191 < bt s (p+j)):bad s p=true:=by
 rcases hb:bad s p with _ | _
 ·exfalso
  have hj':j=1\/j=2\/j=3:=by rcases h with h | h | h <;> omega
  rcases hj' with rfl | rfl | rfl <;> rcases h with h | h | h <;> rcases dO hb with⟨a1,_⟩ | ⟨_,a2,a3,_⟩ | ⟨_,a2,a3,a4,_⟩ | ⟨_,a2,a3,a4,a5,_⟩ <;> omega
 ·rfl
theorem eY{s:ByteArray}{p n:Nat}{c0:Int}(h:wM (bt s p) n c0)(hc:lL s p n)(hb:bad s p=false):(Utf8.decode s p).1=cvF s p c0 (n - 1)/\wd s p=n:=by
 unfold wd
 rcases h with⟨rfl,h⟩ | ⟨rfl,h⟩ | ⟨rfl,h⟩
 ·have c1:=hc 1 (by omega) (by omega)
  rcases dO hb with⟨a1,e⟩ | ⟨_,a2,a3,_,e⟩ | ⟨_,a2,a3,a4,_,e⟩ | ⟨_,a2,a3,a4,a5,_,e⟩
  ·omega
  ·have e2:cvF s p c0 (2 - 1)=64 * c0+bt s (p+1) - 128:=rfl
   rw [e,e2]
   refine⟨?_,rfl⟩
   simp only
   omega
  ·omega
  ·omega
 ·have c1:=hc 1 (by omega) (by omega)
  have c2:=hc 2 (by omega) (by omega)
  rcases dO hb with⟨a1,e⟩ | ⟨_,a2,a3,_,e⟩ | ⟨_,a2,a3,a4,_,e⟩ | ⟨_,a2,a3,a4,a5,_,e⟩
  ·omega
  ·omega
  ·have e2:cvF s p c0 (3 - 1)=64 * (64 * c0+bt s (p+1) - 128)+bt s (p+2) - 128:=rfl
   rw [e,e2]
   refine⟨?_,rfl⟩
   simp only
   omega
  ·omega
 ·have c1:=hc 1 (by omega) (by omega)
  have c2:=hc 2 (by omega) (by omega)
  have c3:=hc 3 (by omega) (by omega)
  rcases dO hb with⟨a1,e⟩ | ⟨_,a2,a3,_,e⟩ | ⟨_,a2,a3,a4,_,e⟩ | ⟨_,a2,a3,a4,a5,_,e⟩
  ·omega
  ·omega
  ·omega
  ·have e2:cvF s p c0 (4 - 1)=64 * (64 * (64 * c0+bt s (p+1) - 128)+bt s (p+2) - 128)+bt s (p+3) - 128:=rfl
   rw [e,e2]
   refine⟨?_,rfl⟩
   simp only
   omega
section
attribute [local go_sem] bC
theorem uB(c:Int)(w:World):Calls Tryz.prog 140 #[.int .i64 c] w fun e w'=>e=.returned (.bool (isC c))/\w'=w:=by
 by_cases h0:0<=c
 ·by_cases h1:c<=1114111
  ·by_cases h2:c < 55296
   ·have hv:Hid (isC c=true):=by show isC c=true;simp [isC];omega
    go_enter Tryz.func140,Tryz.ntmps140
    go_wp2
    go_ret
    exact⟨by rw [hv.out];rfl,rfl⟩
   ·by_cases h3:57343 < c
    ·have hv:Hid (isC c=true):=by show isC c=true;simp [isC];omega
     go_enter Tryz.func140,Tryz.ntmps140
     go_wp2
     go_ret
     exact⟨by rw [hv.out];rfl,rfl⟩
    ·have hv:Hid (isC c=false):=by show isC c=false;simp [isC];omega
     go_enter Tryz.func140,Tryz.ntmps140
     go_wp2
     go_ret
     exact⟨by rw [hv.out];rfl,rfl⟩
  ·have hv:Hid (isC c=false):=by show isC c=false;simp [isC];omega
   go_enter Tryz.func140,Tryz.ntmps140
   go_wp2
   go_ret
   exact⟨by rw [hv.out];rfl,rfl⟩
 ·have hv:Hid (isC c=false):=by show isC c=false;simp [isC];omega
  go_enter Tryz.func140,Tryz.ntmps140
  go_wp2
  go_ret
  exact⟨by rw [hv.out];rfl,rfl⟩
theorem gJ(w:World)(l:List Int)(hl:∀ x∈l,0<=x/\x < 256) :
  (convert 52 9 (.slice (some ⟨w.heap.size,0,none⟩) l.length l.length)).run Tryz.prog (w.alloc (.cells (l.map (Value.int .u8)).toArray 5))=.ok (.string (txt (l.map fun x=>x.toNat.toUInt8))) (w.alloc (.cells (l.map (Value.int .u8)).toArray 5)):=by
 have:=run_convert_bytes_back (P:=Tryz.prog) (w.alloc (.cells (l.map (Value.int .u8)).toArray 5)) 52 9 5 ⟨w.heap.size,0,none⟩ l.length (l.map fun x=>x.toNat.toUInt8) Tryz.underlying52 Tryz.underlying5 Tryz.underlying9 (fun j hj=>by
  have hj':j < l.length:=by simpa using hj
  have e:(⟨w.heap.size,0,none⟩:Addr).add j=⟨w.heap.size,j,none⟩:=by unfold Addr.add;simp;omega
  rw [e]
  refine(aA (aF w _) (i:=j) (v:=.int .u8 l[j]) (by simp [hj'])).trans ?_
  have:=hl l[j] (List.getElem_mem hj')
  simp
  omega)
 rw [List.length_map] at this
 exact this
theorem lP(c:Int)(w:World)(hc:isC c=true):Calls Tryz.prog 141 #[.int .i64 c] w fun e w'=>e=.returned (.string (txt (Lib.encodeRune c)))/\Below w.heap.size w w':=by
 have hr:0<=c/\c<=1114111/\(c < 55296\/57343 < c):=by simpa [isC] using hc
 obtain⟨r0,r1,r2⟩:=hr
 clear hc
 by_cases h1:c < 128
 ·have hE:Hid (Lib.encodeRune c=[c].map fun x=>x.toNat.toUInt8):=by show Lib.encodeRune c=_;rw [Lib.encodeRune,Lib.encodeRuneZ_one r0 (by omega)]
  have hcv:=gJ w [c] (by simp;omega)
  have w1:IntKind.wrap .u8 c=c:=by rw [IntKind.wrap_u8];omega
  simp only [List.map_cons,List.map_nil,List.length_cons,List.length_nil] at hcv hE
  clear r2
  go_enter Tryz.func141,Tryz.ntmps141
  go_wp2
  go_ret
  rw [hE.out]
  exact⟨rfl,(Below.refl _ w).alloc lz9 _⟩
 by_cases h2:c < 2048
 ·have hE:Hid (Lib.encodeRune c=[192+c / 64,128+c % 64].map fun x=>x.toNat.toUInt8):=by show Lib.encodeRune c=_;rw [Lib.encodeRune,Lib.encodeRuneZ_two (by omega) (by omega)]
  have hcv:=gJ w [192+c / 64,128+c % 64] (by simp;omega)
  have q1:c.tdiv 64=c / 64:=Int.tdiv_eq_ediv_of_nonneg r0
  have q2:c.tmod 64=c % 64:=Int.tmod_eq_emod_of_nonneg r0
  have v1:IntKind.wrap .i64 (c / 64)=c / 64:=wrap_small _ (by omega) (by omega)
  have v2:IntKind.wrap .i64 (192+c / 64)=192+c / 64:=wrap_small _ (by omega) (by omega)
  have v3:IntKind.wrap .u8 (192+c / 64)=192+c / 64:=by rw [IntKind.wrap_u8];omega
  have v4:IntKind.wrap .i64 (c % 64)=c % 64:=wrap_small _ (by omega) (by omega)
  have v5:IntKind.wrap .i64 (128+c % 64)=128+c % 64:=wrap_small _ (by omega) (by omega)
  have v6:IntKind.wrap .u8 (128+c % 64)=128+c % 64:=by rw [IntKind.wrap_u8];omega
  simp only [List.map_cons,List.map_nil,List.length_cons,List.length_nil] at hcv hE
  clear r2
  go_enter Tryz.func141,Tryz.ntmps141
  go_wp2
  go_ret
  rw [hE.out]
  exact⟨rfl,(Below.refl _ w).alloc lz9 _⟩
 have v4:IntKind.wrap .i64 (c % 64)=c % 64:=wrap_small _ (by omega) (by omega)
 have v5:IntKind.wrap .i64 (128+c % 64)=128+c % 64:=wrap_small _ (by omega) (by omega)
 have v6:IntKind.wrap .u8 (128+c % 64)=128+c % 64:=by rw [IntKind.wrap_u8];omega
 have q1:c.tdiv 64=c / 64:=Int.tdiv_eq_ediv_of_nonneg r0
 have q2:c.tmod 64=c % 64:=Int.tmod_eq_emod_of_nonneg r0
 have q3:c.tdiv 4096=c / 4096:=Int.tdiv_eq_ediv_of_nonneg r0
 have q4:(c / 64).tmod 64=c / 64 % 64:=Int.tmod_eq_emod_of_nonneg (by omega)
 have u1:IntKind.wrap .i64 (c / 64)=c / 64:=wrap_small _ (by omega) (by omega)
 have u2:IntKind.wrap .i64 (c / 4096)=c / 4096:=wrap_small _ (by omega) (by omega)
 have u3:IntKind.wrap .i64 (c / 64 % 64)=c / 64 % 64:=wrap_small _ (by omega) (by omega)
 have u4:IntKind.wrap .i64 (128+c / 64 % 64)=128+c / 64 % 64:=wrap_small _ (by omega) (by omega)
 have u5:IntKind.wrap .u8 (128+c / 64 % 64)=128+c / 64 % 64:=by rw [IntKind.wrap_u8];omega
 by_cases h3:c < 65536
 ·have hE:Hid (Lib.encodeRune c=[224+c / 4096,128+c / 64 % 64,128+c % 64].map fun x=>x.toNat.toUInt8):=by show Lib.encodeRune c=_;rw [Lib.encodeRune,Lib.encodeRuneZ_three (by omega)]
  have hcv:=gJ w [224+c / 4096,128+c / 64 % 64,128+c % 64] (by simp;omega)
  have u6:IntKind.wrap .i64 (224+c / 4096)=224+c / 4096:=wrap_small _ (by omega) (by omega)
  have u7:IntKind.wrap .u8 (224+c / 4096)=224+c / 4096:=by rw [IntKind.wrap_u8];omega
  simp only [List.map_cons,List.map_nil,List.length_cons,List.length_nil] at hcv hE
  clear r2
  go_enter Tryz.func141,Tryz.ntmps141
  go_wp2
  go_ret
  rw [hE.out]
  exact⟨rfl,(Below.refl _ w).alloc lz9 _⟩
 ·have hE:Hid (Lib.encodeRune c=[240+c / 262144,128+c / 4096 % 64,128+c / 64 % 64,128+c % 64].map fun x=>x.toNat.toUInt8):=by show Lib.encodeRune c=_;rw [Lib.encodeRune,Lib.encodeRuneZ_four (by omega) (by omega)]
  have hcv:=gJ w [240+c / 262144,128+c / 4096 % 64,128+c / 64 % 64,128+c % 64] (by simp;omega)
  have q5:c.tdiv 262144=c / 262144:=Int.tdiv_eq_ediv_of_nonneg r0
  have q6:(c / 4096).tmod 64=c / 4096 % 64:=Int.tmod_eq_emod_of_nonneg (by omega)
  have u6:IntKind.wrap .i64 (c / 262144)=c / 262144:=wrap_small _ (by omega) (by omega)
  have u7:IntKind.wrap .i64 (240+c / 262144)=240+c / 262144:=wrap_small _ (by omega) (by omega)
  have u8:IntKind.wrap .u8 (240+c / 262144)=240+c / 262144:=by rw [IntKind.wrap_u8];omega
  have u9:IntKind.wrap .i64 (c / 4096 % 64)=c / 4096 % 64:=wrap_small _ (by omega) (by omega)
  have u10:IntKind.wrap .i64 (128+c / 4096 % 64)=128+c / 4096 % 64:=wrap_small _ (by omega) (by omega)
  have u11:IntKind.wrap .u8 (128+c / 4096 % 64)=128+c / 4096 % 64:=by rw [IntKind.wrap_u8];omega
  simp only [List.map_cons,List.map_nil,List.length_cons,List.length_nil] at hcv hE
  clear r2
  go_enter Tryz.func141,Tryz.ntmps141
  go_wp2
  go_ret
  rw [hE.out]
  exact⟨rfl,(Below.refl _ w).alloc lz9 _⟩
end
structure Srt(S:List (Int × Int)):Prop where
 some:∀ r∈S,r.1<=r.2
 rise:S.Pairwise (fun a b=>a.1<=b.1)
theorem oV:Srt []:=⟨fun _ h=>(by cases h),List.Pairwise.nil⟩
theorem qD{r:Int × Int}{L:List (Int × Int)}(h:Srt (r :: L)):Srt L:=⟨fun x hx=>h.some x (List.mem_cons_of_mem _ hx),(List.pairwise_cons.1 h.rise).2⟩
theorem oW{O L:List (Int × Int)}(h:Srt O)(k:Srt L)(hx:∀ x∈O,∀ y∈L,x.1<=y.1):Srt (O ++ L):=
 ⟨fun r hr=>(List.mem_append.1 hr).elim (h.some r) (k.some r),List.pairwise_append.2 ⟨h.rise,k.rise,hx⟩⟩
theorem oU{r:Int × Int}(h:r.1<=r.2):Srt [r]:=⟨fun x hx=>by simp at hx;subst hx;exact h,List.pairwise_singleton _ _⟩
structure MI(A B A' B' O:List (Int × Int)):Prop where
 out:Srt O
 a:Srt A'
 b:Srt B'
 mem:∀ c,(In O c\/In A' c\/In B' c) ↔ (In A c\/In B c)
 le:∀ x∈O,∀ y,y∈A'\/y∈B'->x.1<=y.1
 fit:Fit O/\Fit A'/\Fit B'
 len:O.length+A'.length+B'.length<=A.length+B.length
theorem MI.start{A B:List (Int × Int)}(ha:Srt A)(hb:Srt B)(fa:Fit A)(fb:Fit B):MI A B A B []:=
 ⟨oV,ha,hb,fun c=>⟨fun q=>q.elim (fun q=>absurd q (dN c)) id,.inr⟩,fun _ h=>(by cases h),⟨eR,fa,fb⟩,by simp⟩
theorem MI.right{A B A' B' O:List (Int × Int)}{a b:Int × Int}(I:MI A B (a :: A') (b :: B') O)(h:b.1 < a.1):MI A B (a :: A') B' (O ++ [b]):=by
 refine⟨oW I.out (oU (I.b.some b (by simp))) (fun x hx y hy=>by simp at hy;subst hy;exact I.le x hx y (.inr (by simp))),I.a,qD I.b,fun c=>?_,fun x hx y hy=>?_,⟨bZ I.fit.1 (dH I.fit.2.2 fun z hz=>by simp at hz;subst hz;simp),I.fit.2.1,dH I.fit.2.2 fun z hz=>List.mem_cons_of_mem _ hz⟩,by have:=I.len;simp at *;omega⟩
 ·rw [<- I.mem,bO,cP,bK b B']
  constructor
  ·rintro ((q | q) | q | q)
   ·exact .inl q
   ·exact .inr (.inr (.inl q))
   ·exact .inr (.inl q)
   ·exact .inr (.inr (.inr q))
  ·rintro (q | q | q | q)
   ·exact .inl (.inl q)
   ·exact .inr (.inl q)
   ·exact .inl (.inr q)
   ·exact .inr (.inr q)
 ·rcases List.mem_append.1 hx with hx | hx
  ·exact I.le x hx y (hy.elim .inl fun q=>.inr (List.mem_cons_of_mem _ q))
  ·simp at hx
   subst hx
   rcases hy with hy | hy
   ·rcases List.mem_cons.1 hy with rfl | hy
    ·omega
    ·have:=(List.pairwise_cons.1 I.a.rise).1 y hy;omega
   ·exact(List.pairwise_cons.1 I.b.rise).1 y hy
theorem MI.left{A B A' B' O:List (Int × Int)}{a:Int × Int}(I:MI A B (a :: A') B' O)(h:∀ b∈B',a.1<=b.1):MI A B A' B' (O ++ [a]):=by
 refine⟨oW I.out (oU (I.a.some a (by simp))) (fun x hx y hy=>by simp at hy;subst hy;exact I.le x hx y (.inl (by simp))),qD I.a,I.b,fun c=>?_,fun x hx y hy=>?_,⟨bZ I.fit.1 (dH I.fit.2.1 fun z hz=>by simp at hz;subst hz;simp),dH I.fit.2.1 fun z hz=>List.mem_cons_of_mem _ hz,I.fit.2.2⟩,by have:=I.len;simp at *;omega⟩
 ·rw [<- I.mem,bO,cP,bK a A']
  constructor
  ·rintro ((q | q) | q | q)
   ·exact .inl q
   ·exact .inr (.inl (.inl q))
   ·exact .inr (.inl (.inr q))
   ·exact .inr (.inr q)
  ·rintro (q |(q | q) | q)
   ·exact .inl (.inl q)
   ·exact .inl (.inr q)
   ·exact .inr (.inl q)
   ·exact .inr (.inr q)
 ·rcases List.mem_append.1 hx with hx | hx
  ·exact I.le x hx y (hy.elim (fun q=>.inl (List.mem_cons_of_mem _ q)) .inr)
  ·simp at hx
   subst hx
   rcases hy with hy | hy
   ·exact(List.pairwise_cons.1 I.a.rise).1 y hy
   ·exact h y hy
theorem MI.done{A B B' O:List (Int × Int)}(I:MI A B [] B' O):Srt (O ++ B')/\(∀ c,In (O ++ B') c ↔ (In A c\/In B c))/\Fit (O ++ B')/\(O ++ B').length<=A.length+B.length:=by
 refine⟨oW I.out I.b fun x hx y hy=>I.le x hx y (.inr hy),fun c=>?_,bZ I.fit.1 I.fit.2.2,by have:=I.len;simp at *;omega⟩
 rw [<- I.mem,bO]
 exact⟨fun q=>q.elim .inl fun q=>.inr (.inr q),fun q=>q.elim .inl fun q=>q.elim (fun q=>absurd q (dN c)) .inr⟩
def nE(w:World)(L:List (Int × Int))(e:Ending)(w':World):Prop:=∃ v S,e=.returned v/\RR w.heap.size w' v S/\Srt S/\Fit S/\(∀ c,In S c ↔ In L c)/\S.length<=L.length/\Below w.heap.size w w'
theorem ArgR.take{W:World}{g off n cap:Nat}{L:List (Int × Int)}(h:ArgR W (.slice (some ⟨g,off,none⟩) n cap) L){k:Nat}(hk:k<=L.length):ArgR W (.slice (some ⟨g,off,none⟩) k cap) (L.take k):=by
 have hl:(L.take k).length=k:=by simp;omega
 rcases h with⟨p,c,e,rfl,e2⟩ | ⟨g',off',cap',e,h2,h3,h4,h5⟩
 ·simp at hk
  subst hk
  cases e
  exact .inl ⟨_,_,rfl,rfl,fun q=>by cases q⟩
 ·cases e
  refine .inr ⟨g,off,cap,by rw [hl],h2,by omega,h4,fun i r hi=>h5 i r ?_⟩
  rw [List.getElem?_take] at hi
  split at hi
  ·exact hi
  ·cases hi
theorem ArgR.drop{W:World}{g off n cap:Nat}{L:List (Int × Int)}(h:ArgR W (.slice (some ⟨g,off,none⟩) n cap) L){k:Nat}(hk:k < L.length):ArgR W (.slice (some ⟨g,off+k * 2,none⟩) (n - k) (cap - k)) (L.drop k):=by
 rcases h with⟨p,c,e,rfl,e2⟩ | ⟨g',off',cap',e,h2,h3,h4,h5⟩
 ·simp at hk
 ·cases e
  refine .inr ⟨g,off+k * 2,cap - k,by simp,h2,by simp;omega,by omega,fun i r hi=>?_⟩
  rw [List.getElem?_drop] at hi
  have:=h5 (k+i) r hi
  rw [show off+k * 2+2 * i=off+2 * (k+i) by omega]
  exact this
theorem vZ(L:List (Int × Int))(k:Nat)(c:Int):(In (L.take k) c\/In (L.drop k) c) ↔ In L c:=by rw [<- bO,List.take_append_drop]
section
attribute [local go_sem] bC
theorem jE{w:World}{v:Value}{L:List (Int × Int)}(h:ArgR w v L)(hF:Fit L)(hn:L.length<=1):Calls Tryz.prog 175 #[v] w (nE w L):=by
 obtain⟨t0,ti,hz0,hz1,hz2⟩:=aQ bS
 cases L with
 | nil=>
  obtain⟨q,cap,e,-,-,-⟩:=h.slice
  subst e
  clear h
  go_enter Tryz.func175,Tryz.ntmps175
  go_wp2
  go_ret
  exact⟨_,[],rfl,RR.nil _ _,oV,eR,fun _=>Iff.rfl,Nat.le_refl _,Below.refl _ _⟩
 | cons r L'=>
  obtain rfl:L'=[]:=List.eq_nil_of_length_eq_zero (by simpa using hn)
  obtain⟨g,off,cap,rfl,hg,hn1,hm1,x1,x2⟩:=h.cons
  have HF:Hid (Fit [r]):=hF
  clear h hF
  obtain⟨lo,hi⟩:=r
  dsimp only [List.length_nil] at x1 x2 hn1 ⊢
  have W1:Hid (w=w):=rfl
  by_cases hq:lo<=hi
  ·have dq:decide (lo<=hi)=true:=decide_eq_true hq
   have HQ:Hid (lo<=hi):=hq
   go_enter Tryz.func175,Tryz.ntmps175
   go_wp2
   refine wx9 ?_
   repeat (go_big_quiet_step (first | exact rfl))
   refine wpQuiet_nil ?_
   intro w7 hw7
   have B7:Hid (Below w.heap.size w w7):=aM hw7
   have c1:=(B7.out.cell (p:=⟨g,off,none⟩) hg).trans x1
   have c2:=(B7.out.cell (p:=⟨g,off+1,none⟩) hg).trans x2
   have hz7:=B7.out.size
   clear hw7 x1 x2
   go_wp2_with (at_builtin;refine wpList_append_own_at _ rfl _ _ 22 rfl w.heap.size 48 t0 (.agg #[.int .i64 0,.int .i64 0]) 2 16 aR ti hz0 hz1 hz2 rfl (by decide) (.slice none 0 0) 0 (aK []) rfl (RR.nil _ _) ⟨w7.heap.size,0,none⟩ 1 1 [.int .i64 lo,.int .i64 hi] rfl rfl (eA _ _ _ _) (by simp [Value.oneCell']) (by unfold maxLen;omega) (by omega) (by simp;omega) ?_;intro v' w6 hown' hgrow _ hblk;obtain⟨g6,cap6,rfl⟩:=aJ hown' (Nat.succ_pos _);have A6:Hid (RR w.heap.size w6 (.slice (some ⟨g6,0,none⟩) 1 cap6) [(lo,hi)]):=hown';have B6:Hid (Below w.heap.size w w6):=bJ (t:=48) (size:=2) (n:=0) (xs:=[]) (B7.out.alloc hz7 _) (RR.nil _ _) hgrow;clear hown' hgrow hblk)
   go_ret
   exact⟨_,[(lo,hi)],rfl,A6.out,oU HQ.out,HF.out,fun _=>Iff.rfl,Nat.le_refl _,B6.out⟩
  ·have dq:decide (lo<=hi)=false:=decide_eq_false hq
   have HQ:Hid (¬ lo<=hi):=hq
   go_enter Tryz.func175,Tryz.ntmps175
   go_wp2
   refine wx9 ?_
   repeat (go_big_quiet_step (first | exact rfl))
   refine wpQuiet_nil ?_
   intro w7 hw7
   have B7:Hid (Below w.heap.size w w7):=aM hw7
   clear hw7
   go_wp2
   go_ret
   exact⟨_,[],rfl,RR.nil _ _,oV,eR,fun c=>⟨fun q=>absurd q (dN c),fun q=>by rw [cP] at q;have:=HQ.out;simp only at q;omega⟩,by simp,B7.out⟩
theorem qE{w:World}{v:Value}{L:List (Int × Int)}(ih:∀ (w:World) (v:Value) (L':List (Int × Int)),L'.length < L.length->ArgR w v L'->Fit L'->Calls Tryz.prog 175 #[v] w (nE w L'))(h:ArgR w v L)(hF:Fit L)(hn:1 < L.length)(hl:L.length+1<=8796093022208):Calls Tryz.prog 175 #[v] w (nE w L):=by
 obtain⟨t0,ti,hz0,hz1,hz2⟩:=aQ bS
 obtain⟨q,cap,e,-,hcap,hcells⟩:=h.slice
 subst e
 obtain⟨g,off,rfl,hg,-,-⟩:=hcells 0 _ (List.getElem?_eq_getElem (by omega))
 obtain⟨k,hk⟩:∃ k,L.length / 2=k:=⟨_,rfl⟩
 have hk1:0 < k:=by omega
 have hk2:k < L.length:=by omega
 have IH:Hid (∀ (w:World) (v:Value) (L':List (Int × Int)),L'.length < L.length->ArgR w v L'->Fit L'->Calls Tryz.prog 175 #[v] w (nE w L')):=ih
 have T1:Hid (ArgR w (.slice (some ⟨g,off,none⟩) k cap) (L.take k)/\Fit (L.take k)/\(L.take k).length < L.length):=⟨h.take (by omega),dH hF fun x hx=>List.mem_of_mem_take hx,by simp;omega⟩
 have T2:Hid (ArgR w (.slice (some ⟨g,off+k * 2,none⟩) (L.length - k) (cap - k)) (L.drop k)/\Fit (L.drop k)/\(L.drop k).length < L.length):=⟨h.drop hk2,dH hF fun x hx=>List.mem_of_mem_drop hx,by simp;omega⟩
 have HL:Hid ((L.take k).length+(L.drop k).length=L.length):=aB (by simp;omega)
 have q1:((L.length:Int).tdiv 2)=(k:Int):=by rw [<- hk];simp [Int.tdiv_eq_ediv]
 have q2:IntKind.wrap .i64 ((L.length:Int).tdiv 2)=(k:Int):=by rw [q1,IntKind.wrap_i64];omega
 have n0:((L.length:Int)==0)=false:=beq_false_of_ne (by omega)
 have n1:((L.length:Int)==1)=false:=beq_false_of_ne (by omega)
 have k0:(0:Int)<=(k:Int):=by omega
 have k1:(k:Int)<=(cap:Int):=by omega
 have k2:(k:Int)<=(L.length:Int):=by omega
 have k3:¬ cap=k:=by omega
 clear h hF ih hcells hk
 go_enter Tryz.func175,Tryz.ntmps175
 go_wp2_with first
  |(go_at_call 175;have hx:=X5.out;clear hx;have hih:=IH.out w5 _ _ T2.out.2.2 (T2.out.1.kept X5.out.2.2.2.2.2) T2.out.2.1;(with_reducible refine hih.mono ?_);clear hih;rintro e w6 ⟨v6,B,rfl,h1,h2,h3,h4,h5,h6⟩;obtain⟨qb,cb,rfl⟩:=h1.shape;have X6:Hid (RR w5.heap.size w6 (.slice qb B.length cb) B/\Srt B/\Fit B/\(∀ c,In B c ↔ In (L.drop k) c)/\B.length<=(L.drop k).length/\Below w5.heap.size w5 w6):=⟨h1,h2,h3,h4,h5,h6⟩;clear h1 h2 h3 h4 h5 h6)
  |(go_at_call 175;have hih:=IH.out w _ _ T1.out.2.2 T1.out.1 T1.out.2.1;(with_reducible refine hih.mono ?_);clear hih;rintro e w5 ⟨v5,A,rfl,h1,h2,h3,h4,h5,h6⟩;obtain⟨qa,ca,rfl⟩:=h1.shape;have X5:Hid (RR w.heap.size w5 (.slice qa A.length ca) A/\Srt A/\Fit A/\(∀ c,In A c ↔ In (L.take k) c)/\A.length<=(L.take k).length/\Below w.heap.size w w5):=⟨h1,h2,h3,h4,h5,h6⟩;clear h1 h2 h3 h4 h5 h6)
 rename World=>W1
 have ST:Hid (MI A B A B []):=MI.start X5.out.2.1 X6.out.2.1 X5.out.2.2.1 X6.out.2.2.1
 have AA:Hid (ArgR W1 (.slice qa A.length ca) A/\ArgR W1 (.slice qb B.length cb) B):=⟨(X5.out.1.kept X6.out.2.2.2.2.2).arg,X6.out.1.arg⟩
 have hab:A.length+B.length+1<=8796093022208:=by have:=X5.out.2.2.2.2.1;have:=X6.out.2.2.2.2.1;have:=HL.out;omega
 have BW:Hid (Below w.heap.size w W1):=aG X5.out.2.2.2.2.2 X6.out.2.2.2.2.2 lz9
 have HA:Hid (∀ (i:Nat) (r:Int × Int),A[i]?=some r->∃ g off,qa=some ⟨g,off,none⟩/\g < W1.heap.size/\W1.cell? ⟨g,off+2 * i,none⟩=some (.int .i64 r.1)/\W1.cell? ⟨g,off+2 * i+1,none⟩=some (.int .i64 r.2)):=by
  obtain⟨q',cap',e,-,-,hc⟩:=AA.out.1.slice
  cases e
  exact hc
 have FIN:Hid (∀ O B',MI A B [] B' O->Srt (O ++ B')/\Fit (O ++ B')/\(∀ c,In (O ++ B') c ↔ In L c)/\(O ++ B').length<=L.length):=fun O B' I=>by
  obtain⟨m1,m2,m3,m4⟩:=I.done
  refine⟨m1,m3,fun c=>?_,?_⟩
  ·rw [m2,X5.out.2.2.2.1,X6.out.2.2.2.1,vZ]
  ·have:=X5.out.2.2.2.2.1;have:=X6.out.2.2.2.2.1;have:=HL.out;omega
 clear q1 q2 k0 k1 k2 k3 n0 n1
 go_loopw [3,5,6] (fun ov bv i wr=>∃ (j:Nat) (B' O:List (Int × Int)),j<=A.length/\i=.int .i64 j/\ArgR W1 bv B'/\RR W1.heap.size wr ov O/\MI A B (A.drop j) B' O/\Below W1.heap.size W1 wr) (fun _ _ i _=>A.length - (intOf i).toNat)
 case atStart=>exact⟨0,B,[],Nat.zero_le _,rfl,AA.out.2,RR.nil _ _,ST.out,Below.refl _ _⟩
 case round=>
  obtain⟨j,B',O,hj,rfl,hbv,hov,hI,hb⟩:=hrel
  have RB:Hid (ArgR W1 u5 B'):=hbv
  have RO:Hid (RR W1.heap.size wr u3 O):=hov
  have I:Hid (MI A B (A.drop j) B' O):=hI
  have BB:Hid (Below W1.heap.size W1 wr):=hb
  clear hbv hov hI hb
  by_cases hlt:j < A.length
  ·obtain⟨a,ea⟩:∃ r,A[j]?=some r:=⟨_,List.getElem?_eq_getElem hlt⟩
   have DR:Hid (A.drop j=a :: A.drop (j+1)):=aB (by obtain⟨h1,h2⟩:=List.getElem?_eq_some_iff.1 ea;rw [List.drop_eq_getElem_cons h1,h2])
   obtain⟨ga,oa,rfl,hga,xa1,xa2⟩:=HA.out j _ ea
   have I2:Hid (MI A B (a :: A.drop (j+1)) B' O):=aB (by rw [<- DR.out];exact I.out)
   rw [Nat.mul_comm] at xa1 xa2
   obtain⟨la,ra⟩:=a
   dsimp only at xa1 xa2
   have XA:Hid (W1.cell? ⟨ga,oa+j * 2,none⟩=some (.int .i64 la)/\W1.cell? ⟨ga,oa+j * 2+1,none⟩=some (.int .i64 ra)/\ga < W1.heap.size):=⟨xa1,xa2,hga⟩
   have i0:(0:Int)<=(j:Int):=by omega
   have i1:(j:Int) < (A.length:Int):=by omega
   clear xa1 xa2 hga ea
   rename World=>W2
   obtain⟨qq,cc,e5⟩:∃ q c,u5=.slice q B'.length c:=by obtain⟨q,c,e,-⟩:=RB.out.slice;exact⟨q,c,e⟩
   obtain⟨qq3,cc3,e3⟩:=RO.out.shape
   go_wp2
   go_loopw [3,5] (fun ov bv wr=>∃ (B' O:List (Int × Int)),ArgR W1 bv B'/\RR W1.heap.size wr ov O/\MI A B ((la,ra) :: A.drop (j+1)) B' O/\Below W1.heap.size W1 wr) (fun _ bv _=>kQ bv)
   case atStart=>exact⟨B',O,RB.out,RO.out,I2.out,BB.out⟩
   case round=>
    clear RB RO I I2 BB e5 e3
    obtain⟨B',O,hbv,hov,hI,hb⟩:=hrel
    obtain⟨qo,co,e3⟩:=hov.shape
    subst e3
    have RO:Hid (RR W1.heap.size wr (.slice qo O.length co) O):=hov
    have I:Hid (MI A B ((la,ra) :: A.drop (j+1)) B' O):=hI
    have BB:Hid (Below W1.heap.size W1 wr):=hb
    have hol:O.length+1<=8796093022208:=by have:=hI.len;simp at this;omega
    have hbs:=hb.size
    have ca1:=(BB.out.cell (p:=⟨ga,oa+j * 2,none⟩) XA.out.2.2).trans XA.out.1
    have sa:ga < wr.heap.size:=Nat.lt_of_lt_of_le XA.out.2.2 hbs
    clear hov hI hb
    cases B' with
    | nil=>
     obtain⟨q2,cap2,e2,-,-,-⟩:=hbv.slice
     simp only [List.length_nil] at e2
     subst e2
     have RB:Hid (ArgR W1 (.slice q2 0 cap2) []):=hbv
     have I2:Hid (MI A B (A.drop (j+1)) [] (O ++ [(la,ra)])):=I.out.left (fun _ h=>by cases h)
     have d0:decide ((0:Int) < 0)=false:=by decide
     clear hbv
     go_wp2
     refine wx9 ?_
     repeat (go_big_quiet_step (first | exact rfl))
     refine wpQuiet_nil ?_
     intro w7 hw7
     have B7:Hid (Below W1.heap.size W1 w7):=aG BB.out (aM hw7) lz9
     have R7:Hid (RR W1.heap.size w7 (.slice qo O.length co) O):=RO.out.kept (aM hw7)
     have e1:=(B7.out.cell (p:=⟨ga,oa+j * 2,none⟩) XA.out.2.2).trans XA.out.1
     have e2:=(B7.out.cell (p:=⟨ga,oa+j * 2+1,none⟩) XA.out.2.2).trans XA.out.2.1
     have hz7:=B7.out.size
     clear hw7 ca1
     go_wp2_with (at_builtin;refine wpList_append_own_at _ rfl _ _ 22 rfl W1.heap.size 48 t0 (.agg #[.int .i64 0,.int .i64 0]) 2 16 aR ti hz0 hz1 hz2 rfl (by decide) (.slice qo O.length co) O.length (aK O) rfl (World.ownsRow.alloc R7.out (.cells #[.int .i64 la,.int .i64 ra] 48)) ⟨w7.heap.size,0,none⟩ 1 1 [.int .i64 la,.int .i64 ra] rfl rfl (eA _ _ _ _) (by simp [Value.oneCell']) (by unfold maxLen;omega) (by omega) (by simp;omega) ?_;intro v' w6 hown' hgrow _ hblk;obtain⟨g6,cap6,rfl⟩:=aJ hown' (Nat.succ_pos _);have A6:Hid (RR W1.heap.size w6 (.slice (some ⟨g6,0,none⟩) (O.length+1) cap6) (O ++ [(la,ra)])):=fF hown';have B6:Hid (Below W1.heap.size W1 w6):=bJ (B7.out.alloc B7.out.size _) (World.ownsRow.alloc R7.out _) hgrow;clear hown' hgrow hblk)
     go_roundw
     case rel=>exact⟨j+1,[],_,by omega,by go_num,RB.out,A6.out,I2.out,B6.out⟩
     case measure=>simp [intOf];omega
    | cons b B'=>
     obtain⟨g2,o2,cap2,e2,hg2,hn2,hm2,y1,y2⟩:=hbv.cons
     subst e2
     have RB:Hid (ArgR W1 (.slice (some ⟨g2,o2,none⟩) (B'.length+1) cap2) (b :: B')):=hbv
     obtain⟨lb,rb⟩:=b
     dsimp only at y1 y2
     have YB:Hid (W1.cell? ⟨g2,o2,none⟩=some (.int .i64 lb)/\W1.cell? ⟨g2,o2+1,none⟩=some (.int .i64 rb)/\g2 < W1.heap.size):=⟨y1,y2,hg2⟩
     have cb1:=(BB.out.cell (p:=⟨g2,o2,none⟩) YB.out.2.2).trans YB.out.1
     have sb:g2 < wr.heap.size:=Nat.lt_of_lt_of_le hg2 hbs
     have d1:(0:Int) < (B'.length:Int)+1:=by omega
     have dd:decide ((0:Int) < (B'.length:Int)+1)=true:=decide_eq_true d1
     unfold maxLen at hm2
     clear hbv y1 y2 hg2
     by_cases hq:lb < la
     ·have I2:Hid (MI A B ((la,ra) :: A.drop (j+1)) B' (O ++ [(lb,rb)])):=I.out.right hq
      have dq:decide (lb < la)=true:=decide_eq_true hq
      have TT:=RB.out.tail
      by_cases hcap:cap2=1
      ·have T1':Hid (ArgR W1 (.slice (some ⟨g2,o2,none⟩) 0 0) B'):=TT.1 hcap
       have hA0:B'.length=0:=by omega
       subst hcap
       clear TT
       go_wp2
       refine wx9 ?_
       repeat (go_big_quiet_step (first | exact rfl))
       refine wpQuiet_nil ?_
       intro w7 hw7
       have B7:Hid (Below W1.heap.size W1 w7):=aG BB.out (aM hw7) lz9
       have R7:Hid (RR W1.heap.size w7 (.slice qo O.length co) O):=RO.out.kept (aM hw7)
       have e1:=(B7.out.cell (p:=⟨g2,o2,none⟩) YB.out.2.2).trans YB.out.1
       have e2:=(B7.out.cell (p:=⟨g2,o2+1,none⟩) YB.out.2.2).trans YB.out.2.1
       have hz7:=B7.out.size
       clear hw7 ca1 cb1
       go_wp2_with (at_builtin;refine wpList_append_own_at _ rfl _ _ 22 rfl W1.heap.size 48 t0 (.agg #[.int .i64 0,.int .i64 0]) 2 16 aR ti hz0 hz1 hz2 rfl (by decide) (.slice qo O.length co) O.length (aK O) rfl (World.ownsRow.alloc R7.out (.cells #[.int .i64 lb,.int .i64 rb] 48)) ⟨w7.heap.size,0,none⟩ 1 1 [.int .i64 lb,.int .i64 rb] rfl rfl (eA _ _ _ _) (by simp [Value.oneCell']) (by unfold maxLen;omega) (by omega) (by simp;omega) ?_;intro v' w6 hown' hgrow _ hblk;obtain⟨g6,cap6,rfl⟩:=aJ hown' (Nat.succ_pos _);have A6:Hid (RR W1.heap.size w6 (.slice (some ⟨g6,0,none⟩) (O.length+1) cap6) (O ++ [(lb,rb)])):=fF hown';have B6:Hid (Below W1.heap.size W1 w6):=bJ (B7.out.alloc B7.out.size _) (World.ownsRow.alloc R7.out _) hgrow;clear hown' hgrow hblk)
       go_roundw
       case rel=>exact⟨B',_,T1'.out,A6.out,I2.out,B6.out⟩
       case measure=>simp only [kQ];omega
      ·have T1':Hid (ArgR W1 (.slice (some ⟨g2,o2+2,none⟩) B'.length (cap2 - 1)) B'):=TT.2 hcap
       clear TT
       go_wp2
       refine wx9 ?_
       repeat (go_big_quiet_step (first | exact rfl))
       refine wpQuiet_nil ?_
       intro w7 hw7
       have B7:Hid (Below W1.heap.size W1 w7):=aG BB.out (aM hw7) lz9
       have R7:Hid (RR W1.heap.size w7 (.slice qo O.length co) O):=RO.out.kept (aM hw7)
       have e1:=(B7.out.cell (p:=⟨g2,o2,none⟩) YB.out.2.2).trans YB.out.1
       have e2:=(B7.out.cell (p:=⟨g2,o2+1,none⟩) YB.out.2.2).trans YB.out.2.1
       have hz7:=B7.out.size
       clear hw7 ca1 cb1
       go_wp2_with (at_builtin;refine wpList_append_own_at _ rfl _ _ 22 rfl W1.heap.size 48 t0 (.agg #[.int .i64 0,.int .i64 0]) 2 16 aR ti hz0 hz1 hz2 rfl (by decide) (.slice qo O.length co) O.length (aK O) rfl (World.ownsRow.alloc R7.out (.cells #[.int .i64 lb,.int .i64 rb] 48)) ⟨w7.heap.size,0,none⟩ 1 1 [.int .i64 lb,.int .i64 rb] rfl rfl (eA _ _ _ _) (by simp [Value.oneCell']) (by unfold maxLen;omega) (by omega) (by simp;omega) ?_;intro v' w6 hown' hgrow _ hblk;obtain⟨g6,cap6,rfl⟩:=aJ hown' (Nat.succ_pos _);have A6:Hid (RR W1.heap.size w6 (.slice (some ⟨g6,0,none⟩) (O.length+1) cap6) (O ++ [(lb,rb)])):=fF hown';have B6:Hid (Below W1.heap.size W1 w6):=bJ (B7.out.alloc B7.out.size _) (World.ownsRow.alloc R7.out _) hgrow;clear hown' hgrow hblk)
       go_roundw
       case rel=>exact⟨B',_,T1'.out,A6.out,I2.out,B6.out⟩
       case measure=>simp only [kQ];omega
     ·have I2:Hid (MI A B (A.drop (j+1)) ((lb,rb) :: B') (O ++ [(la,ra)])):=I.out.left (fun y hy=>by
       rcases List.mem_cons.1 hy with rfl | hy
       ·simp only;omega
       ·have:=(List.pairwise_cons.1 I.out.b.rise).1 y hy;simp only at this ⊢;omega)
      have dq:decide (lb < la)=false:=decide_eq_false hq
      go_wp2
      refine wx9 ?_
      repeat (go_big_quiet_step (first | exact rfl))
      refine wpQuiet_nil ?_
      intro w7 hw7
      have B7:Hid (Below W1.heap.size W1 w7):=aG BB.out (aM hw7) lz9
      have R7:Hid (RR W1.heap.size w7 (.slice qo O.length co) O):=RO.out.kept (aM hw7)
      have e1:=(B7.out.cell (p:=⟨ga,oa+j * 2,none⟩) XA.out.2.2).trans XA.out.1
      have e2:=(B7.out.cell (p:=⟨ga,oa+j * 2+1,none⟩) XA.out.2.2).trans XA.out.2.1
      have hz7:=B7.out.size
      clear hw7 ca1 cb1
      go_wp2_with (at_builtin;refine wpList_append_own_at _ rfl _ _ 22 rfl W1.heap.size 48 t0 (.agg #[.int .i64 0,.int .i64 0]) 2 16 aR ti hz0 hz1 hz2 rfl (by decide) (.slice qo O.length co) O.length (aK O) rfl (World.ownsRow.alloc R7.out (.cells #[.int .i64 la,.int .i64 ra] 48)) ⟨w7.heap.size,0,none⟩ 1 1 [.int .i64 la,.int .i64 ra] rfl rfl (eA _ _ _ _) (by simp [Value.oneCell']) (by unfold maxLen;omega) (by omega) (by simp;omega) ?_;intro v' w6 hown' hgrow _ hblk;obtain⟨g6,cap6,rfl⟩:=aJ hown' (Nat.succ_pos _);have A6:Hid (RR W1.heap.size w6 (.slice (some ⟨g6,0,none⟩) (O.length+1) cap6) (O ++ [(la,ra)])):=fF hown';have B6:Hid (Below W1.heap.size W1 w6):=bJ (B7.out.alloc B7.out.size _) (World.ownsRow.alloc R7.out _) hgrow;clear hown' hgrow hblk)
      go_roundw
      case rel=>exact⟨j+1,(lb,rb) :: B',_,by omega,by go_num,RB.out,A6.out,I2.out,B6.out⟩
      case measure=>simp [intOf];omega
  ·have i1:¬ (j:Int) < (A.length:Int):=by omega
   have D0:Hid (A.drop j=[]):=aB (List.drop_of_length_le (by omega))
   have I2:Hid (MI A B [] B' O):=aB (by rw [<- D0.out];exact I.out)
   obtain⟨q2,cap2,e5,-,-,-⟩:=RB.out.slice
   subst e5
   obtain⟨qo,co,e3⟩:=RO.out.shape
   subst e3
   have F:=FIN.out O B' I2.out
   have FF:Hid _:=F
   have hlen:=F.2.2.2
   rw [List.length_append] at hlen
   have hbs:=BB.out.size
   clear F
   cases q2 with
   | none=>
    have e0:Value.slice none B'.length cap2=.slice none 0 0/\B'=[]:=by
     rcases RB.out with⟨p,cap',e,e2,e3⟩ | ⟨g',off',cap',e,_⟩
     ·subst e2
      cases e
      have:=e3 rfl
      subst this
      exact⟨rfl,rfl⟩
     ·cases e
    obtain⟨e1,e2⟩:=e0
    subst e2
    cases e1
    go_wp2_with (at_builtin;refine wpList_append_own_none rfl _ _ 22 rfl W1.heap.size 48 t0 2 aR ti (.slice qo O.length co) O.length (aK O) rfl RO.out rfl ?_)
    go_ret
    refine⟨_,O ++ [],rfl,?_,FF.out.1,FF.out.2.1,FF.out.2.2.1,FF.out.2.2.2,aG BW.out BB.out lz9⟩
    rw [List.append_nil]
    exact RO.out.mono BW.out.size
   | some ad=>
    have NW:Hid (∀ j u,(aK B')[j]?=some u->wr.cell? (ad.add j)=some u):=(RB.out.kept BB.out).news
    go_wp2_with (at_builtin;refine wpList_append_own_at _ rfl _ _ 22 rfl W1.heap.size 48 t0 (.agg #[.int .i64 0,.int .i64 0]) 2 16 aR ti hz0 hz1 hz2 rfl (by decide) (.slice qo O.length co) O.length (aK O) rfl RO.out ad B'.length cap2 (aK B') rfl (cA B') NW.out (fP B') (by unfold maxLen;omega) (by omega) hbs ?_;intro v' w6 hown' hgrow _ hblk;have A6:Hid (RR W1.heap.size w6 v' (O ++ B')):=lN hown';have B6:Hid (Below W1.heap.size W1 w6):=bJ BB.out RO.out hgrow;clear hown' hgrow hblk)
    go_ret
    exact⟨_,O ++ B',rfl,A6.out.mono BW.out.size,FF.out.1,FF.out.2.1,FF.out.2.2.1,FF.out.2.2.2,aG BW.out B6.out lz9⟩
theorem wX(n:Nat):∀ (w:World) (v:Value) (L:List (Int × Int)),L.length<=n->n+1<=8796093022208->ArgR w v L->Fit L->Calls Tryz.prog 175 #[v] w (nE w L):=by
 induction n with
 | zero=>exact fun w v L hn _ h hF=>jE h hF (by omega)
 | succ n ih=>
  intro w v L hn hl h hF
  by_cases h1:L.length<=1
  ·exact jE h hF h1
  ·exact qE (fun w v L' hL' h' hF'=>ih w v L' (by omega) (by omega) h' hF') h hF (by omega) (by omega)
end
end Go.Proofs.YticfnglebbakkaaGreatDoor
