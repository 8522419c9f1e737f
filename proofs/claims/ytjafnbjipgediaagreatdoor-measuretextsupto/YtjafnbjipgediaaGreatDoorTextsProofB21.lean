/-
  Parts of the proof.
-/
import Derived.Test.YtjafnbjipgediaaGreatDoorTextsProofB5
import Derived.Test.YtjafnbjipgediaaGreatDoorTextsProofB2
import Derived.Test.YtjafnbjipgediaaGreatDoorTextsProofB16
import Derived.Test.YtjafnbjipgediaaGreatDoorTextsProofB3
import Derived.Test.YtjafnbjipgediaaGreatDoorTextsProofB0
import Derived.Deep.RegionHeld
import Derived.Laws.EntriesVeiled
set_option maxRecDepth 100000
set_option maxHeartbeats 8000000
namespace Go.Proofs.YtjafnbjipgediaaGreatDoor
open Go Go.RowKit
section
attribute [local go_sem] Oper.semAt_some
def fb(x:Int):Int:=if x < 128 then x else if x < 2048 then 192+x / 64 else if x < 65536 then 224+x / 4096 else 240+x / 262144
theorem cJ(x:Int):isC x=true ↔ 0<=x/\x<=1114111/\(x < 55296\/57343 < x):=by simp [isC]
theorem jJ{x y:Int}(h0:0<=x)(h:x<=y)(h1:y<=1114111):fb x<=fb y:=by
 unfold fb
 split <;> split <;> (try split) <;> (try split) <;> (try split) <;> omega
theorem iU{x:Int}(h:isC x=true):(0<=fb x/\fb x < 128)\/(194<=fb x/\fb x<=244):=by
 rw [cJ] at h
 unfold fb
 split
 ·omega
 ·split
  ·omega
  ·split <;> omega
theorem aX2{lo hi v:Int}(h1:isC lo=true)(h2:isC hi=true)(hl:lo<=hi)(a:fb lo<=v)(b:v<=fb hi)(hv:v < 128\/194<=v):∃ x,lo<=x/\x<=hi/\isC x=true/\fb x=v:=by
 by_cases e1:v=fb lo
 ·exact⟨lo,Int.le_refl _,hl,h1,e1.symm⟩
 by_cases e2:v=fb hi
 ·exact⟨hi,hl,Int.le_refl _,h2,e2.symm⟩
 have r1:=iU h1
 have r2:=iU h2
 have c1:=(cJ lo).1 h1
 have c2:=(cJ hi).1 h2
 have key:∀ x,isC x=true->fb x=v->∃ x,lo<=x/\x<=hi/\isC x=true/\fb x=v:=fun x hx he=>by
  have cx:=(cJ x).1 hx
  refine⟨x,?_,?_,hx,he⟩
  ·rcases Int.lt_or_le x lo with q | q
   ·have:=jJ cx.1 (Int.le_of_lt q) (by omega);omega
   ·exact q
  ·rcases Int.lt_or_le hi x with q | q
   ·have:=jJ c2.1 (Int.le_of_lt q) cx.2.1;omega
   ·exact q
 rcases hv with hv | hv
 ·exact key v ((cJ v).2 (by omega)) (by unfold fb;rw [if_pos hv])
 ·by_cases k1:v < 224
  ·exact key ((v - 192) * 64) ((cJ _).2 (by omega)) (by unfold fb;rw [if_neg (by omega),if_pos (by omega)];omega)
  by_cases k2:v=224
  ·exact key 2048 (by decide) (by rw [k2];decide)
  by_cases k3:v < 240
  ·exact key ((v - 224) * 4096) ((cJ _).2 (by omega)) (by unfold fb;rw [if_neg (by omega),if_neg (by omega),if_pos (by omega)];omega)
  by_cases k4:v=240
  ·exact key 65536 (by decide) (by rw [k4];decide)
  ·exact key ((v - 240) * 262144) ((cJ _).2 (by omega)) (by unfold fb;rw [if_neg (by omega),if_neg (by omega),if_neg (by omega)];omega)
theorem xB{n a b:Nat}(h:z5_InS n a b):(fF n a 0:Int)=fb a/\(fF n b 0:Int)=fb b/\isC (a:Int)=true/\isC (b:Int)=true/\a<=b/\(fb a < 128/\fb b < 128\/194<=fb a):=by
 obtain⟨x,y,hs,h1,h2,h3⟩:=h
 rw [cJ,cJ]
 unfold fF fb
 rcases hs with⟨rfl,rfl,rfl⟩ | ⟨rfl,rfl,rfl⟩ | ⟨rfl,rfl,rfl⟩ | ⟨rfl,rfl,rfl⟩ | ⟨rfl,rfl,rfl⟩
 ·refine⟨?_,?_,by omega,by omega,h2,?_⟩
  ·rw [if_pos rfl,if_pos (by omega)]
  ·rw [if_pos rfl,if_pos (by omega)]
  ·rw [if_pos (by omega),if_pos (by omega)];omega
 ·refine⟨?_,?_,by omega,by omega,h2,?_⟩
  ·rw [if_neg (by omega),if_pos rfl,if_pos rfl,if_neg (by omega),if_pos (by omega)];omega
  ·rw [if_neg (by omega),if_pos rfl,if_pos rfl,if_neg (by omega),if_pos (by omega)];omega
  ·rw [if_neg (by omega),if_pos (by omega)];omega
 ·refine⟨?_,?_,by omega,by omega,h2,?_⟩
  ·rw [if_neg (by omega),if_neg (by omega),if_pos rfl,if_pos rfl,if_neg (by omega),if_neg (by omega),if_pos (by omega)];omega
  ·rw [if_neg (by omega),if_neg (by omega),if_pos rfl,if_pos rfl,if_neg (by omega),if_neg (by omega),if_pos (by omega)];omega
  ·rw [if_neg (by omega),if_neg (by omega),if_pos (by omega)];omega
 ·refine⟨?_,?_,by omega,by omega,h2,?_⟩
  ·rw [if_neg (by omega),if_neg (by omega),if_pos rfl,if_pos rfl,if_neg (by omega),if_neg (by omega),if_pos (by omega)];omega
  ·rw [if_neg (by omega),if_neg (by omega),if_pos rfl,if_pos rfl,if_neg (by omega),if_neg (by omega),if_pos (by omega)];omega
  ·rw [if_neg (by omega),if_neg (by omega),if_pos (by omega)];omega
 ·refine⟨?_,?_,by omega,by omega,h2,?_⟩
  ·rw [if_neg (by omega),if_neg (by omega),if_neg (by omega),if_pos rfl,if_neg (by omega),if_neg (by omega),if_neg (by omega)];omega
  ·rw [if_neg (by omega),if_neg (by omega),if_neg (by omega),if_pos rfl,if_neg (by omega),if_neg (by omega),if_neg (by omega)];omega
  ·rw [if_neg (by omega),if_neg (by omega),if_neg (by omega)];omega
def kO(r:eQ):Int × Int:=((fF r.n r.a 0:Int),(fF r.n r.b 0:Int))
theorem sV{c:Nat}{R:List eQ}:fE c R=0 ↔ ∀ r∈R,¬ (r.a<=c/\c<=r.b):=by
 unfold fE
 rw [List.countP_eq_zero]
 simp
theorem aD4{lo hi:Int}{R:List eQ}(h:aG3 lo hi R)(h0:isC lo=true)(h1:isC hi=true)(v:Int):In (R.map kO) v ↔ ∃ x,lo<=x/\x<=hi/\isC x=true/\fb x=v:=by
 have c1:=(cJ lo).1 h0
 have c2:=(cJ hi).1 h1
 have inn:∀ r∈R,lo<=(r.a:Int)/\(r.b:Int)<=hi:=fun r hr=>by
  obtain⟨-,-,ka,kb,kab,-⟩:=xB (h.pc r hr).1
  have q1:=h.cn r.a ka
  have q2:=h.cn r.b kb
  have z1:fE r.a R≠0:=fun e=>sV.1 e r hr ⟨Nat.le_refl _,kab⟩
  have z2:fE r.b R≠0:=fun e=>sV.1 e r hr ⟨kab,Nat.le_refl _⟩
  constructor
  ·by_cases e:lo<=(r.a:Int)/\(r.a:Int)<=hi
   ·exact e.1
   ·rw [if_neg e] at q1;exact absurd q1 z1
  ·by_cases e:lo<=(r.b:Int)/\(r.b:Int)<=hi
   ·exact e.2
   ·rw [if_neg e] at q2;exact absurd q2 z2
 constructor
 ·rintro ⟨p,hp,a,b⟩
  obtain⟨r,hr,rfl⟩:=List.mem_map.1 hp
  obtain⟨e1,e2,ka,kb,kab,kr⟩:=xB (h.pc r hr).1
  simp only [kO] at a b
  rw [e1] at a
  rw [e2] at b
  obtain⟨x,x1,x2,x3,x4⟩:=aX2 ka kb (by omega) a b (by omega)
  have:=inn r hr
  exact⟨x,by omega,by omega,x3,x4⟩
 ·rintro ⟨x,x1,x2,x3,rfl⟩
  have cx:=(cJ x).1 x3
  obtain⟨c,rfl⟩:=Int.eq_ofNat_of_zero_le cx.1
  have q:=h.cn c x3
  rw [if_pos ⟨x1,x2⟩] at q
  have:¬ ∀ r∈R,¬ (r.a<=c/\c<=r.b):=fun e=>by rw [sV.2 e] at q;cases q
  simp only [Classical.not_forall,Classical.not_not] at this
  obtain⟨r,hr,k1,k2⟩:=this
  obtain⟨e1,e2,ka,kb,kab,kr⟩:=xB (h.pc r hr).1
  have cb:=(cJ _).1 kb
  exact⟨kO r,List.mem_map.2 ⟨r,hr,rfl⟩,by simp only [kO];rw [e1];exact jJ (by omega) (by omega) cx.2.1,by simp only [kO];rw [e2];exact jJ cx.1 (by omega) cb.2.1⟩
theorem bC1{r:eQ}(h:dO r.n r.a r.b):0<=(kO r).1/\(kO r).1<=(kO r).2/\(kO r).2<=255:=by
 obtain⟨e1,e2,ka,kb,kab,-⟩:=xB h.1
 have r1:=iU ka
 have r2:=iU kb
 have ca:=(cJ _).1 ka
 have cb:=(cJ _).1 kb
 have:=jJ (x:=(r.a:Int)) (y:=(r.b:Int)) ca.1 (by omega) cb.2.1
 simp only [kO]
 omega
structure Fst(L F:List (Int × Int)):Prop where
 ok:∀ p∈F,0<=p.1/\p.1<=p.2/\p.2<=255
 mem:∀ v,In F v ↔ ∃ x,In L x/\isC x=true/\fb x=v
theorem Fst.nil:Fst [] []:=⟨fun p hp=>(by cases hp),fun v=>⟨fun h=>absurd h (iA v),fun⟨x,h,_⟩=>absurd h (iA x)⟩⟩
theorem Fst.snoc{L F:List (Int × Int)}{r:Int × Int}{R:List eQ}(h:Fst L F)(hq:aG3 r.1 r.2 R)(h0:isC r.1=true)(h1:isC r.2=true):Fst (L ++ [r]) (F ++ R.map kO):=by
 refine⟨fun p hp=>?_,fun v=>?_⟩
 ·rcases List.mem_append.1 hp with e | e
  ·exact h.ok p e
  ·obtain⟨q,hq',rfl⟩:=List.mem_map.1 e
   exact bC1 (hq.pc q hq')
 ·rw [cH,h.mem,aD4 hq h0 h1]
  constructor
  ·rintro (⟨x,a,b,c⟩ | ⟨x,a,b,c,d⟩)
   ·exact⟨x,(cH ..).2 (.inl a),b,c⟩
   ·exact⟨x,(cH ..).2 (.inr ((eK ..).2 ⟨a,b⟩)),c,d⟩
  ·rintro ⟨x,a,b,c⟩
   rcases (cH ..).1 a with e | e
   ·exact .inl ⟨x,e,b,c⟩
   ·have:=(eK ..).1 e
    exact .inr ⟨x,this.1,this.2,b,c⟩
theorem Fr.grownOr{S:Nat->Prop}{a w w':World}{row:Option Nat}(h:Fr S a w)(hg:w.grownBy w' row)(hr:∀ k,row=some k->S k\/a.heap.size<=k):Fr S a w':=
 ⟨hg.os.trans h.os,hg.tape.trans h.tape,hg.output.trans h.output,Nat.le_trans h.size hg.size,fun k hk hs=>(hg.block k (Nat.lt_of_lt_of_le hk h.size) (fun e=>by rcases hr k e.symm with q | q;exact hs q;omega)).trans (h.block k hk hs)⟩
theorem zW(L:List (Int × Int))(r:Int × Int):aS (L ++ [r])=aS L ++ [.int .i64 r.1,.int .i64 r.2]:=by simp [aS]
end
section
attribute [local go_sem] Oper.semAt_some
def bN4(w:World)(L:List (Int × Int))(e:Ending)(w':World):Prop:=∃ v F,e=.returned v/\RR w.heap.size w' v F/\Fst L F/\F.length<=30 * L.length/\Below w.heap.size w w'
theorem aO5{w:World}{q:Option Addr}{k:Nat}{L:List (Int × Int)}(h:ArgR w (.slice q L.length k) L)(hc:∀ r∈L,isC r.1=true/\isC r.2=true/\r.1<=r.2)(hS:z5_Spans w)(h0:0 < w.heap.size)(hl:L.length<=600000) :
  Calls Tryz.prog 120 #[.slice q L.length k] w (bN4 w L):=by
 obtain⟨t0,ti,hz0,hz1,hz2⟩:=bH cY
 have TI:Hid (Tryz.prog.info? 110=some t0/\t0.zero=some (.agg #[.int .i64 0,.int .i64 0])/\t0.size=2/\t0.bytes=16):=⟨ti,hz0,hz1,hz2⟩
 obtain⟨q',k',e,h1,h2,h3⟩:=h.slice
 injection e with e1 _ e3
 subst e1 e3
 have H3:=aD h3
 have h9:L.length<=9223372036854775807:=h1
 have HC:=aD hc
 have HS:=aD hS
 clear h3 h h1 hc hS ti hz0 hz1 hz2
 go_enter Tryz.func120,Tryz.ntmps120
 go_wp2
 go_loopw [3,12] (fun v i wr=>∃ (j:Nat) (F:List (Int × Int)),j<=L.length/\i=.int .i64 (j:Int)/\RR w.heap.size wr v F/\Fst (L.take j) F/\F.length<=30 * j/\Below w.heap.size w wr) (fun _ i _=>L.length - (intOf i).toNat)
 case atStart=>exact⟨0,[],Nat.zero_le _,rfl,RR.nil _ _,Fst.nil,Nat.le_refl _,Below.refl _ _⟩
 case round=>
  obtain⟨j,F,hj,rfl,hrr,hf,hfl,hb⟩:=hrel
  obtain⟨qv,cv,rfl⟩:=hrr.shape
  have RO:=aD hrr
  have HF:=aD hf
  have HB:=aD hb
  clear hrr hf hb
  by_cases hjl:j < L.length
  ·obtain⟨⟨lo,hi⟩,hr⟩:∃ r,L[j]?=some r:=⟨_,List.getElem?_eq_getElem hjl⟩
   obtain⟨g,off,rfl,hg,c1,c2⟩:=H3.out j _ hr
   have e1:(j:Int) < (L.length:Int):=by omega
   have c3:=(HB.out.cell (p:=⟨g,off+2 * j,none⟩) hg).trans c1
   have c4:=(HB.out.cell (p:=⟨g,off+2 * j+1,none⟩) hg).trans c2
   rw [Nat.mul_comm] at c3 c4
   simp only at c3 c4
   obtain⟨k1,k2,k3⟩:=HC.out _ (List.mem_of_getElem? hr)
   simp only at k1 k2 k3
   have ci1:=(cJ lo).1 k1
   have ci2:=(cJ hi).1 k2
   have HT:Hid (L.take (j+1)=L.take j ++ [(lo,hi)]):=(by rw [List.take_add_one,hr];rfl)
   have B1:Hid (Below w.heap.size w (wr.alloc (.cells #[.int .i64 lo,.int .i64 hi] 110))):=HB.out.alloc HB.out.size _
   have HRW:=aD (aL5 lo hi (wr.alloc (.cells #[.int .i64 lo,.int .i64 hi] 110)) (HS.out.below B1.out h0) ci1.1 k3 ci2.2.1)
   have KK:=aD (And.intro k1 k2)
   clear c1 c2 hr k1 k2 ci1 ci2
   go_upto_region 7 with (go_at_call 144;refine HRW.out.mono ?_;rintro e w5 ⟨v5,R,rfl,h51,h52,h53⟩;obtain⟨q5,cv5,e5⟩:=aZ h51.own;subst e5;have A5:=aD h51;have Q5:=aD h52;have B5:=aD h53;clear h51 h52 h53)
   have BW:Hid (Below w.heap.size w w5):=aJ B1.out B5.out lz9
   have R5:Hid (RR w.heap.size w5 (.slice qv F.length cv) F):=(RO.out.kept (bz9)).kept B5.out
   have SB:Hid (∀ k,(Value.slice qv F.length cv).ownBlock=some k->w.heap.size<=k/\k < wr.heap.size):=fun k e=>⟨(aH RO.out e).1,(aH RO.out e).2.1⟩
   have NS:Hid (∀ r∈R,¬ (Value.slice qv F.length cv).ownBlock=some r.g):=fun r hr e=>by
    have h1:=(A5.out.row r hr).lo
    have h2:=(SB.out _ e).2
    rw [World.size_alloc] at h1
    omega
   have NR:Hid (∀ k,(Value.slice q5 R.length cv5).ownBlock=some k->¬ (Value.slice qv F.length cv).ownBlock=some k):=fun k e z=>by
    obtain⟨-,-,cur,hc⟩:=aH A5.out.own e
    exact aP R5.out hc (by decide) z
   have hrl:R.length<=30:=Q5.out.ln
   have hfl2:F.length<=18000000:=by omega
   clear RO HB B1 HRW B5 c3 c4
   go_loopw [3,26] (fun v i wx=>∃ m:Nat,m<=R.length/\i=.int .i64 (m:Int)/\RR w.heap.size wx v (F ++ (R.take m).map kO)/\Fr (fun k=>(Value.slice qv F.length cv).ownBlock=some k) w5 wx/\∀ k,v.ownBlock=some k->(Value.slice qv F.length cv).ownBlock=some k\/w5.heap.size<=k) (fun _ i _=>R.length - (intOf i).toNat)
   case atStart=>exact⟨0,Nat.zero_le _,rfl,by simpa using R5.out,Fr.refl _ _,fun k e=>.inl e⟩
   case round=>
    obtain⟨m,hm,rfl,hrr,hfr,hob⟩:=hrel
    obtain⟨O,hO⟩:∃ O,F ++ (R.take m).map kO=O:=⟨_,rfl⟩
    have EO:=aD hO
    have hol:O.length<=18000030:=by rw [<- hO,List.length_append,List.length_map,List.length_take];omega
    rw [hO] at hrr
    obtain⟨qx,cx,rfl⟩:=hrr.shape
    have RX:=aD hrr
    have FX:=aD hfr
    have OB:=aD hob
    clear hrr hfr hob hO
    by_cases hml:m < R.length
    ·obtain⟨r,hr⟩:∃ r,R[m]?=some r:=⟨_,List.getElem?_eq_getElem hml⟩
     have hin:r∈R:=List.mem_of_getElem? hr
     have e2:(m:Int) < (R.length:Int):=by omega
     obtain⟨g5,cb,e⟩:=aL A5.out.own (by omega)
     injection e with e1' e2' e3'
     subst e1' e3'
     have d1:wr.cell? ⟨g5,m,none⟩=some (.slice (some ⟨r.g,0,none⟩) r.n r.n):=aU (aM A5.out.own FX.out (fun k e z=>NR.out k e z)) (by simp [hr,xL])
     obtain⟨cs,hcs,hsz,hcell⟩:=(A5.out.row r hin).blk
     have hn1:=(Q5.out.pc r hin).1.n
     obtain⟨x1,x2⟩:=hcell 0 (by omega)
     have hcs2:=(FX.out.block _ (aB hcs) (NS.out r hin)).trans hcs
     have d2:wr.cell? ⟨r.g,0,none⟩=some (.int .i64 (kO r).1):=aA hcs2 x1
     have d3:wr.cell? ⟨r.g,1,none⟩=some (.int .i64 (kO r).2):=aA hcs2 x2
     have TN:=aD (show F ++ (R.take (m+1)).map kO=O ++ [kO r] by rw [List.take_add_one,hr,Option.toList_some,List.map_append,<- List.append_assoc,EO.out];rfl)
     have i3:(0:Int) < (r.n:Int):=by omega
     obtain⟨p1,p2⟩:∃ p,kO r=p:=⟨_,rfl⟩
     rw [p2] at d2 d3 TN
     obtain⟨pa,pb⟩:=p1
     simp only at d2 d3
     clear hcs hcs2 hsz hcell x1 x2 hr hin e2' p2
     have RA6:Hid ((wr.alloc (.cells #[.int .i64 pa,.int .i64 pb] 110)).ownsRow w.heap.size 110 2 (.slice qx O.length cx) O.length (aS O)):=World.ownsRow.alloc RX.out _
     have SZ:Hid (w.heap.size<=(wr.alloc (.cells #[.int .i64 pa,.int .i64 pb] 110)).heap.size):=Nat.le_trans BW.out.size (Nat.le_trans FX.out.size (by rw [World.size_alloc];omega))
     go_wp2_with (at_builtin;refine wpList_append_own_at _ rfl _ _ 22 rfl w.heap.size 110 t0 (.agg #[.int .i64 0,.int .i64 0]) 2 16 bM TI.out.1 TI.out.2.1 TI.out.2.2.1 TI.out.2.2.2 rfl (by decide) (.slice qx O.length cx) O.length (aS O) rfl RA6.out ⟨wr.heap.size,0,none⟩ 1 1 [.int .i64 pa,.int .i64 pb] rfl rfl (cR _ [_,_] _) (by simp [Value.oneCell']) (by unfold maxLen;omega) (by omega) SZ.out ?_;intro v' w6 hown' hgrow _ hblk;obtain⟨g6,cap6,e6⟩:=aL hown' (Nat.succ_pos _);subst e6;have O6:=aD hown';have G6:=aD hgrow;have K6:=aD hblk;clear hown' hgrow hblk)
     go_roundw
     case rel=>
      refine⟨m+1,by omega,by go_num,?_,(FX.out.alloc _).grownOr G6.out (fun k e=>OB.out k e),fun k e=>?_⟩
      ·rw [TN.out]
       have:=O6.out
       rw [<- zW O (pa,pb)] at this
       unfold RR
       rw [List.length_append]
       exact this
      ·rcases K6.out with q | q
       ·exact OB.out k (q ▸ e)
       ·rw [q] at e
        injection e with e
        have:=FX.out.size
        exact .inr (by rw [<- e,World.size_alloc];omega)
     case measure=>simp only [intOf];omega
    ·have e2:¬ (m:Int) < (R.length:Int):=by omega
     have EE:=aD (show F ++ R.map kO=O by rw [<- EO.out,List.take_of_length_le (by omega)])
     go_wp2
     go_roundw
     case rel=>
      refine⟨j+1,O,by omega,by go_num,RX.out,?_,?_,bC BW.out FX.out lz9 (fun k e=>(SB.out k e).1)⟩
      ·rw [HT.out,<- EE.out]
       exact HF.out.snoc Q5.out KK.out.1 KK.out.2
      ·rw [<- EE.out,List.length_append,List.length_map];omega
     case measure=>simp only [intOf];omega
  ·have e1:¬ (j:Int) < (L.length:Int):=by omega
   rw [List.take_of_length_le (by omega)] at HF
   go_wp2
   go_ret
   exact⟨_,F,rfl,RO.out,HF.out,by omega,HB.out⟩
end
section
attribute [local go_sem] Oper.semAt_some
def fbU(c:Bool)(x:Int):Int:=if c then fb x else x
open Classical in
noncomputable def fB (c:Bool) (L:List (Int × Int)):BitVec 256:=bK (fun b=>decide (∃ x,In L x/\bP c x/\fbU c x=(b:Int))) 256
theorem aQ5(lo hi:Int)(n:Nat):(cT lo hi).getLsbD n=decide (n < 256/\lo<=(n:Int)/\(n:Int)<=hi):=by
 unfold cT
 rw [lO,fX,fX,Bool.eq_iff_iff]
 simp
 omega
theorem aZ4:∀ (rs:List (Int × Int)) (n:Nat),(cE rs).getLsbD n=true ↔ n < 256/\In rs (n:Int):=by
 intro rs n
 have:∀ (k:Nat) (rs:List (Int × Int)),rs.length=k->((cE rs).getLsbD n=true ↔ n < 256/\In rs (n:Int)):=by
  intro k
  induction k with
  | zero=>intro rs h;rw [List.eq_nil_of_length_eq_zero h];simp [cE,iA]
  | succ k ih=>
   intro rs h
   obtain⟨a,r,rfl⟩:∃ a r,rs=a ++ [r]:=by
    have hne:rs≠[]:=by intro e;rw [e] at h;simp at h
    exact⟨rs.dropLast,rs.getLast hne,(List.dropLast_concat_getLast hne).symm⟩
   rw [nG,mN,Bool.or_eq_true,ih a (by simpa using h),aQ5,decide_eq_true_eq,cH,eK]
   constructor
   ·rintro (⟨p,q⟩ | ⟨p,q⟩)
    ·exact⟨p,.inl q⟩
    ·exact⟨p,.inr q⟩
   ·rintro ⟨p,q | q⟩
    ·exact .inl ⟨p,q⟩
    ·exact .inr ⟨p,q⟩
 exact this _ rs rfl
theorem aJ9{c:Bool}{L F:List (Int × Int)}(h:∀ v:Int,In F v ↔ ∃ x,In L x/\bP c x/\fbU c x=v):cE F=fB c L:=by
 refine BitVec.eq_of_getLsbD_eq fun n hn=>?_
 unfold fB
 rw [eT _ _ _ lz9,Bool.eq_iff_iff,aZ4,h]
 simp [hn]
theorem ArgR.row{W:World}{v:Value}{L:List (Int × Int)}(h:ArgR W v L):z1_RowAt W v L:=by
 rcases h with⟨p,cap,h1,h2,-⟩ | ⟨g,off,cap,h1,h2,h3,h4,h5⟩
 ·exact .inl ⟨p,cap,h1,h2⟩
 ·refine .inr ⟨g,off,cap,h1,h2,h3,h4,fun i lo hi e=>?_⟩
  obtain⟨a,b⟩:=h5 i (lo,hi) e
  rw [Nat.mul_comm] at a b
  exact⟨a,b⟩
theorem aU4{R:Ending->World->Prop}{a:Act}{W:World}{b:Nat}{x:BitVec 256}(h:W.heap[b]?=some (.cells #[.int .u64 (aC x 0),.int .u64 (aC x 1),.int .u64 (aC x 2),.int .u64 (aC x 3)] 36 (0,0)))(ha:a.tmps[4]?.getD undef=.pointer (some ⟨b,0,none⟩))(hd:a.defers=[])(hR:R (.returned (.agg #[.int .u64 (aC x 0),.int .u64 (aC x 1),.int .u64 (aC x 2),.int .u64 (aC x 3)])) W):bodyPost Tryz.prog Tryz.f84 R .ret a W:=by
 refine bodyPost_ret (v:=.agg #[.int .u64 (aC x 0),.int .u64 (aC x 1),.int .u64 (aC x 2),.int .u64 (aC x 3)]) ?_ hd hR
 have z0:=aA h (i:=0) rfl;have z1:=aA h (i:=1) rfl;have z2:=aA h (i:=2) rfl;have z3:=aA h (i:=3) rfl
 simp [results,Tryz.results84,go_sem,ha,z0,z1,z2,z3]
theorem wS{w:World}{q:Option Addr}{k:Nat}{L:List (Int × Int)}(c o:Bool)(h:ArgR w (.slice q L.length k) L)(hs:oE c o L)(hS:z5_Spans w)(h0:0 < w.heap.size){X:BitVec 256}(hX:fB c L=X) :
  Calls Tryz.prog 84 #[.slice q L.length k,.agg #[.bool c,.bool o]] w fun e w'=>e=.returned (.agg #[.int .u64 (aC X 0),.int .u64 (aC X 1),.int .u64 (aC X 2),.int .u64 (aC X 3)])/\Below w.heap.size w w':=by
 have B1:Hid (Below w.heap.size w ((w.alloc (.cells #[.bool c,.bool o] 27)).alloc (.cells #[.int .u64 0,.int .u64 0,.int .u64 0,.int .u64 0] 36))):=(bz9).alloc (by simp only [World.size_alloc];omega) _
 have R1:Hid (((w.alloc (.cells #[.bool c,.bool o] 27)).alloc (.cells #[.int .u64 0,.int .u64 0,.int .u64 0,.int .u64 0] 36)).heap[w.heap.size+1]?=some (.cells #[.int .u64 0,.int .u64 0,.int .u64 0,.int .u64 0] 36 (0,0))):=aK _ (by simp only [World.size_alloc])
 have M1:((w.alloc (.cells #[.bool c,.bool o] 27)).alloc (.cells #[.int .u64 0,.int .u64 0,.int .u64 0,.int .u64 0] 36)).cell? ⟨w.heap.size,0,none⟩=some (.bool c):=by simp
 have hl:=sE hs.1
 have HX:=aD hX
 have HA:=aD h
 have HM:=aD hs
 have HS:=aD hS
 clear h hs hS hX
 generalize hWg:(w.alloc (.cells #[.bool c,.bool o] 27)).alloc (.cells #[.int .u64 0,.int .u64 0,.int .u64 0,.int .u64 0] 36)=Wg at B1 R1 M1
 have HWg:=aD hWg
 clear hWg
 cases c with
 | true=>
  have HL:=aD (aO5 (HA.out.kept B1.out) (fun r hr=>by
   have hsm:=HM.out.1.cls.some r hr
   exact⟨cV ((HM.out.1.mem r.1).1 ⟨r,hr,Int.le_refl _,hsm⟩).2,cV ((HM.out.1.mem r.2).1 ⟨r,hr,hsm,Int.le_refl _⟩).2,hsm⟩) (HS.out.below B1.out h0) (Nat.lt_of_lt_of_le h0 B1.out.size) hl)
  go_enter Tryz.func84,Tryz.ntmps84
  go_upto_region 1 with fail
  rw [HWg.out]
  go_wp2_with first
   |(go_at_call 120;refine HL.out.mono ?_;rintro e w5 ⟨v5,F,rfl,h1,h2,h3,h4⟩;obtain⟨q5,c5,e5⟩:=h1.shape;subst e5;have HF:=aD (rP F _ w5 h1.arg.row (fun r hr=>h2.ok r hr));rw [aJ9 (c:=true) (L:=L) (fun v=>by rw [h2.mem];exact⟨fun⟨x,a,b,d⟩=>⟨x,a,((HM.out.1.mem x).1 a).2,d⟩,fun⟨x,a,b,d⟩=>⟨x,a,cV b,d⟩⟩),HX.out] at HF;have B5:=aD h4;clear h1 h2 h3 h4)
   |(go_at_call 121;refine HF.out.mono ?_;rintro e w6 ⟨rfl,h6⟩;have B6:=aD h6;clear h6;have R6:Hid ((w6.alloc (.cells #[.int .u64 (aC X 0),.int .u64 (aC X 1),.int .u64 (aC X 2),.int .u64 (aC X 3)] 36)).heap[w.heap.size+1]?=some (.cells #[.int .u64 0,.int .u64 0,.int .u64 0,.int .u64 0] 36 (0,0))):=((bz9).block _ (aB ((B6.out.block _ (aB ((B5.out.block _ (aB R1.out)).trans R1.out))).trans ((B5.out.block _ (aB R1.out)).trans R1.out)))).trans ((B6.out.block _ (aB ((B5.out.block _ (aB R1.out)).trans R1.out))).trans ((B5.out.block _ (aB R1.out)).trans R1.out));have z0:=aA R6.out (i:=0) rfl;have z1:=aA R6.out (i:=1) rfl;have z2:=aA R6.out (i:=2) rfl;have z3:=aA R6.out (i:=3) rfl;have fz:=fun z=>aG R6.out z)
  refine aU4 (b:=w.heap.size+1) (x:=X) (bA R6.out [.int .u64 (aC X 0),.int .u64 (aC X 1),.int .u64 (aC X 2),.int .u64 (aC X 3)] rfl) rfl rfl ?_
  exact⟨rfl,bC ((aJ (aJ B1.out B5.out lz9) B6.out lz9).alloc (aJ (aJ B1.out B5.out lz9) B6.out lz9).size _) (aV (w.heap.size+1) [.int .u64 (aC X 0),.int .u64 (aC X 1),.int .u64 (aC X 2),.int .u64 (aC X 3)] 0 _) lz9 (fun k e=>by omega)⟩
 | false=>
  have HF:=aD (rP L _ Wg (HA.out.kept B1.out).row (fun r hr=>by
   have hsm:=HM.out.1.cls.some r hr
   have a:=((HM.out.1.mem r.1).1 ⟨r,hr,Int.le_refl _,hsm⟩).2
   have b:=((HM.out.1.mem r.2).1 ⟨r,hr,hsm,Int.le_refl _⟩).2
   simp [bP,top] at a b
   exact⟨by omega,hsm,by omega⟩))
  rw [aJ9 (c:=false) (L:=L) (fun v=>⟨fun a=>⟨v,a,((HM.out.1.mem v).1 a).2,rfl⟩,fun⟨x,a,b,d⟩=>(show x=v from d) ▸ a⟩),HX.out] at HF
  go_enter Tryz.func84,Tryz.ntmps84
  go_upto_region 1 with fail
  rw [HWg.out]
  go_wp2_with first
   |(go_at_call 121;refine HF.out.mono ?_;rintro e w6 ⟨rfl,h6⟩;have B6:=aD h6;clear h6;have R6:Hid ((w6.alloc (.cells #[.int .u64 (aC X 0),.int .u64 (aC X 1),.int .u64 (aC X 2),.int .u64 (aC X 3)] 36)).heap[w.heap.size+1]?=some (.cells #[.int .u64 0,.int .u64 0,.int .u64 0,.int .u64 0] 36 (0,0))):=((bz9).block _ (aB ((B6.out.block _ (aB R1.out)).trans R1.out))).trans ((B6.out.block _ (aB R1.out)).trans R1.out);have z0:=aA R6.out (i:=0) rfl;have z1:=aA R6.out (i:=1) rfl;have z2:=aA R6.out (i:=2) rfl;have z3:=aA R6.out (i:=3) rfl;have fz:=fun z=>aG R6.out z)
  refine aU4 (b:=w.heap.size+1) (x:=X) (bA R6.out [.int .u64 (aC X 0),.int .u64 (aC X 1),.int .u64 (aC X 2),.int .u64 (aC X 3)] rfl) rfl rfl ?_
  exact⟨rfl,bC ((aJ B1.out B6.out lz9).alloc (aJ B1.out B6.out lz9).size _) (aV (w.heap.size+1) [.int .u64 (aC X 0),.int .u64 (aC X 1),.int .u64 (aC X 2),.int .u64 (aC X 3)] 0 _) lz9 (fun k e=>by omega)⟩
end
section
attribute [local go_sem] Oper.semAt_some
abbrev TWS:=TW 82 83 45 134 135 78 133
def enS(x:BitVec 256 × Bool):Value:=.agg #[.int .u64 (aC x.1 0),.int .u64 (aC x.1 1),.int .u64 (aC x.1 2),.int .u64 (aC x.1 3),.bool x.2]
def ceS(xs:List (BitVec 256 × Bool)):List Value:=xs.flatMap fun x=>[.int .u64 (aC x.1 0),.int .u64 (aC x.1 1),.int .u64 (aC x.1 2),.int .u64 (aC x.1 3),.bool x.2]
theorem wX(xs:List (BitVec 256 × Bool))(x:BitVec 256 × Bool):ceS (xs ++ [x])=ceS xs ++ [.int .u64 (aC x.1 0),.int .u64 (aC x.1 1),.int .u64 (aC x.1 2),.int .u64 (aC x.1 3),.bool x.2]:=by simp [ceS]
theorem aC4:Tryz.prog.underlying 136=some (.slice 76):=by kernel_rfl
theorem aS3:Tryz.prog.underlying 133=some (.map 3 76):=by kernel_rfl
theorem bK1:(Tryz.prog.info? 76).map (fun i=>(i.zero,i.size,i.bytes))=some (some (.agg #[.int .u64 0,.int .u64 0,.int .u64 0,.int .u64 0,.bool false]),5,40):=by kernel_rfl
def RuS(Glo:World->Prop)(NP:Tr->Prop)(Good:BitVec 256 × Bool->Prop)(ρ:dH (BitVec 256 × Bool))(c o:Bool):Prop:=
 ∀ (t:Tr) (xs:List (BitVec 256 × Bool)) (g:Int->BitVec 256 × Bool) (W:World) (v:Value) (bp bb n base:Nat),Glo W->NP t->t.ks.length<=1000000->NB W t->xs.length=t.ks.length->(∀ x∈xs,Good x)->(∀ i,Good (g i))->W.ownsRow base 76 5 v xs.length (ceS xs) ->
  W.heap[bp]?=some (.cells #[.map (some bb)] 133 (0,0))->MapV W (.agg #[.int .u64 0,.int .u64 0,.int .u64 0,.int .u64 0,.bool false]) bb n (fun i=>enS (g i)) ->
  Calls Tryz.prog 45 #[.agg (dE t.f c o v (.func (.func 82) #[] #[bx bp]))] W fun e w'=>e=.returned (enS (ρ t.f t.ks xs g))/\Below W.heap.size W w'
def OfS(ρ:dH (BitVec 256 × Bool))(w:World)(bb n:Nat)(t:Tr)(g:Int->BitVec 256 × Bool)(e:Ending)(w':World):Prop:=
 e=.returned (enS (ev ρ g t).1)/\MapV w' (.agg #[.int .u64 0,.int .u64 0,.int .u64 0,.int .u64 0,.bool false]) bb (n+t.sz) (fun i=>enS ((ev ρ g t).2 i))/\Fr (fun k=>k=bb) w w'
theorem aI0{R:Ending->World->Prop}{a:Act}{W:World}{b:Nat}{x:BitVec 256 × Bool}(h:W.heap[b]?=some (.cells #[.int .u64 (aC x.1 0),.int .u64 (aC x.1 1),.int .u64 (aC x.1 2),.int .u64 (aC x.1 3),.bool x.2] 76 (0,0)))(ha:a.tmps[7]?.getD undef=.pointer (some ⟨b,0,none⟩))(hd:a.defers=[])(hR:R (.returned (enS x)) W):bodyPost Tryz.prog Tryz.f83 R .ret a W:=by
 refine bodyPost_ret (v:=enS x) ?_ hd hR
 have z0:=aA h (i:=0) rfl;have z1:=aA h (i:=1) rfl;have z2:=aA h (i:=2) rfl;have z3:=aA h (i:=3) rfl;have z4:=aA h (i:=4) rfl
 simp [results,Tryz.results83,go_sem,ha,enS,z0,z1,z2,z3,z4]
structure LpS(ρ:dH (BitVec 256 × Bool))(W0 wr:World)(b s n:Nat)(t:Tr)(c o:Bool)(g:Int->BitVec 256 × Bool)(j:Nat)(v gv:Value):Prop where
 sc:wr.heap[s]?=some (.cells (dE t.f c o v gv) 138 (0,0))
 own:wr.ownsRow W0.heap.size 76 5 v j (ceS (evs ρ g (t.ks.take j)).1)
 mp:MapV wr (.agg #[.int .u64 0,.int .u64 0,.int .u64 0,.int .u64 0,.bool false]) b (n+szs (t.ks.take j)) (fun i=>enS ((evs ρ g (t.ks.take j)).2 i))
 fr:Fr (Wr2 b s) W0 wr
theorem bP3{Glo:World->Prop}(hglo:∀ {A B:World},CK A B->Glo A->Glo B){NP:Tr->Prop}{Good:BitVec 256 × Bool->Prop}{ρ:dH (BitVec 256 × Bool)}{c o:Bool}(hr:RuS Glo NP Good ρ c o)(hwf:∀ t,NP t->t.f.k=7->(Lit.int .i64 t.f.n).wf=true)(hg:∀ t xs g,NP t->xs.length=t.ks.length->(∀ x∈xs,Good x)->(∀ i,Good (g i))->Good (ρ t.f t.ks xs g))(bm bg bo br bp bb:Nat) :
  ∀ (m:Nat) (t:Tr) (w:World) (n:Nat) (g:Int->BitVec 256 × Bool),t.sz<=m->n+t.sz<=1000000->Glo w->TB w t->bY NP t->(∀ i,Good (g i))->TWS w bm bg bo br bp bb c o->MapV w (.agg #[.int .u64 0,.int .u64 0,.int .u64 0,.int .u64 0,.bool false]) bb n (fun i=>enS (g i)) ->
   Calls Tryz.prog 83 #[.agg #[.int .i64 t.f.k,.int .i64 t.f.n,.int .i64 t.f.mn,.int .i64 t.f.mx,.slice t.f.rq t.f.rs.length t.f.rc,.slice t.f.kq t.f.kl t.f.kc],bx bm,bx bg,bx bo,bx br,bx bp] w (OfS ρ w bb n t g):=by
 intro m
 induction m with
 | zero=>intro t w n g hm;exact absurd (eV t) (by omega)
 | succ m ih=>
  intro t w n g hm hn hgw hta hnp hgd htw hmp
  have HGW:=aD hgw
  clear hgw
  obtain⟨t0,ti,hz0,hz1,hz2⟩:=bH bK1
  have TI:Hid (Tryz.prog.info? 76=some t0/\t0.zero=some (.agg #[.int .u64 0,.int .u64 0,.int .u64 0,.int .u64 0,.bool false])/\t0.size=5/\t0.bytes=40):=⟨ti,hz0,hz1,hz2⟩
  clear ti hz0 hz1 hz2
  have HTA:=aD hta
  have HTW:=aD htw
  obtain⟨q,cap,hkv,hk1,hk2,hk3⟩:=hta.node.k.slice
  injection hkv with hkq hkl hkc
  subst hkq
  have HKL:=aD hkl
  have HK3:=aD hk3
  have hkm:t.ks.length<=9223372036854775807:=hk1
  have hkz:=aD (show szs t.ks+1=t.sz from (jG t).symm)
  clear hkl hkc hk3 hk1
  have m0:w.cell? ⟨bm,0,none⟩=some (.bool c):=aA htw.m (i:=0) rfl
  have m1:w.cell? ⟨bm,1,none⟩=some (.bool o):=aA htw.m (i:=1) rfl
  obtain⟨gv,hgv⟩:∃ gv,Value.func (.func 82) #[] #[bx bp]=gv:=⟨_,rfl⟩
  have g0:w.cell? ⟨bg,0,none⟩=some (.func (.func 82) #[] #[bx bp]):=aA htw.g (i:=0) rfl
  have l1:=aB htw.m
  have l2:=aB htw.g
  have IH:=aD ih
  have HR:=aD hr
  have HWF:=aD hwf
  have HG:=aD hg
  have HNP:=aD hnp
  have HGD:=aD hgd
  have HMP:=aD hmp
  have HM:=aD hm
  have HN:=aD hn
  have HGV:=aD hgv
  clear ih hr hwf hg hnp hgd hmp hm hn hta htw hgv
  go_enter Tryz.func83,Tryz.ntmps83
  go_upto_region 5 with fail
  have B0:Hid (Below w.heap.size w (((w.alloc (.cells #[.int .i64 t.f.k,.int .i64 t.f.n,.int .i64 t.f.mn,.int .i64 t.f.mx,.slice t.f.rq t.f.rs.length t.f.rc,.slice t.f.kq t.f.kl t.f.kc] 25)).alloc (.cells #[.int .u64 0,.int .u64 0,.int .u64 0,.int .u64 0,.bool false] 76)).alloc (.cells #[.int .i64 t.f.k,.int .i64 t.f.n,.int .i64 t.f.mn,.int .i64 t.f.mx,.slice t.f.rq t.f.rs.length t.f.rc,.slice t.f.kq t.f.kl t.f.kc,.bool c,.bool o,.slice none 0 0,.func (.func 82) #[] #[bx bp]] 138))):=((bz9).alloc (by simp only [World.size_alloc];omega) _).alloc (by simp only [World.size_alloc];omega) _
  have N0:Hid (BoxN (((w.alloc (.cells #[.int .i64 t.f.k,.int .i64 t.f.n,.int .i64 t.f.mn,.int .i64 t.f.mx,.slice t.f.rq t.f.rs.length t.f.rc,.slice t.f.kq t.f.kl t.f.kc] 25)).alloc (.cells #[.int .u64 0,.int .u64 0,.int .u64 0,.int .u64 0,.bool false] 76)).alloc (.cells #[.int .i64 t.f.k,.int .i64 t.f.n,.int .i64 t.f.mn,.int .i64 t.f.mx,.slice t.f.rq t.f.rs.length t.f.rc,.slice t.f.kq t.f.kl t.f.kc,.bool c,.bool o,.slice none 0 0,.func (.func 82) #[] #[bx bp]] 138)) w.heap.size t.f):=(Below.heap_alloc _ _ _ (by simp only [World.size_alloc];omega)).trans ((Below.heap_alloc _ _ _ (by simp only [World.size_alloc];omega)).trans (aE w _))
  have R0:Hid ((((w.alloc (.cells #[.int .i64 t.f.k,.int .i64 t.f.n,.int .i64 t.f.mn,.int .i64 t.f.mx,.slice t.f.rq t.f.rs.length t.f.rc,.slice t.f.kq t.f.kl t.f.kc] 25)).alloc (.cells #[.int .u64 0,.int .u64 0,.int .u64 0,.int .u64 0,.bool false] 76)).alloc (.cells #[.int .i64 t.f.k,.int .i64 t.f.n,.int .i64 t.f.mn,.int .i64 t.f.mx,.slice t.f.rq t.f.rs.length t.f.rc,.slice t.f.kq t.f.kl t.f.kc,.bool c,.bool o,.slice none 0 0,.func (.func 82) #[] #[bx bp]] 138)).heap[w.heap.size+1]?=some (.cells #[.int .u64 0,.int .u64 0,.int .u64 0,.int .u64 0,.bool false] 76 (0,0))):=(by have:=aE (w.alloc (.cells #[.int .i64 t.f.k,.int .i64 t.f.n,.int .i64 t.f.mn,.int .i64 t.f.mx,.slice t.f.rq t.f.rs.length t.f.rc,.slice t.f.kq t.f.kl t.f.kc] 25)) (.cells #[.int .u64 0,.int .u64 0,.int .u64 0,.int .u64 0,.bool false] 76);rw [World.size_alloc] at this;exact(Below.heap_alloc _ _ _ (by simp)).trans this)
  have S0:Hid ((((w.alloc (.cells #[.int .i64 t.f.k,.int .i64 t.f.n,.int .i64 t.f.mn,.int .i64 t.f.mx,.slice t.f.rq t.f.rs.length t.f.rc,.slice t.f.kq t.f.kl t.f.kc] 25)).alloc (.cells #[.int .u64 0,.int .u64 0,.int .u64 0,.int .u64 0,.bool false] 76)).alloc (.cells #[.int .i64 t.f.k,.int .i64 t.f.n,.int .i64 t.f.mn,.int .i64 t.f.mx,.slice t.f.rq t.f.rs.length t.f.rc,.slice t.f.kq t.f.kl t.f.kc,.bool c,.bool o,.slice none 0 0,.func (.func 82) #[] #[bx bp]] 138)).heap[w.heap.size+1+1]?=some (.cells (dE t.f c o (.slice none 0 0) (.func (.func 82) #[] #[bx bp])) 138 (0,0))):=(by have:=aE ((w.alloc (.cells #[.int .i64 t.f.k,.int .i64 t.f.n,.int .i64 t.f.mn,.int .i64 t.f.mx,.slice t.f.rq t.f.rs.length t.f.rc,.slice t.f.kq t.f.kl t.f.kc] 25)).alloc (.cells #[.int .u64 0,.int .u64 0,.int .u64 0,.int .u64 0,.bool false] 76)) (.cells #[.int .i64 t.f.k,.int .i64 t.f.n,.int .i64 t.f.mn,.int .i64 t.f.mx,.slice t.f.rq t.f.rs.length t.f.rc,.slice t.f.kq t.f.kl t.f.kc,.bool c,.bool o,.slice none 0 0,.func (.func 82) #[] #[bx bp]] 138);simp only [World.size_alloc] at this;exact this)
  generalize hW0:(((w.alloc (.cells #[.int .i64 t.f.k,.int .i64 t.f.n,.int .i64 t.f.mn,.int .i64 t.f.mx,.slice t.f.rq t.f.rs.length t.f.rc,.slice t.f.kq t.f.kl t.f.kc] 25)).alloc (.cells #[.int .u64 0,.int .u64 0,.int .u64 0,.int .u64 0,.bool false] 76)).alloc (.cells #[.int .i64 t.f.k,.int .i64 t.f.n,.int .i64 t.f.mn,.int .i64 t.f.mx,.slice t.f.rq t.f.rs.length t.f.rc,.slice t.f.kq t.f.kl t.f.kc,.bool c,.bool o,.slice none 0 0,.func (.func 82) #[] #[bx bp]] 138))=W0 at B0 N0 R0 S0 ⊢
  clear hW0
  obtain⟨bs,hbs⟩:∃ bs,w.heap.size+1+1=bs:=⟨_,rfl⟩
  have HBS:Hid (w.heap.size<=bs/\bs < W0.heap.size/\bs=w.heap.size+1+1):=⟨by omega,by rw [<- hbs];exact aB S0.out,hbs.symm⟩
  rw [hbs] at S0 ⊢
  clear hbs
  have MB:Hid (∃ es clock,W0.heap[bb]?=some (.map es clock)):=aD (by obtain⟨es,cl,hb⟩:=HMP.out.block;exact⟨es,cl,(B0.out.block _ (aB hb)).trans hb⟩)
  go_loopw [19] (fun i wr=>∃ (j:Nat) (v:Value),j<=t.ks.length/\i=.int .i64 (j:Int)/\LpS ρ W0 wr bb bs n t c o g j v (.func (.func 82) #[] #[bx bp])) (fun i _=>t.ks.length - (intOf i).toNat)
  case atStart=>exact⟨0,_,Nat.zero_le _,rfl,S0.out,(by rw [List.take_zero,cX];exact⟨rfl,.inl ⟨rfl,rfl⟩⟩),(by rw [List.take_zero,cX,fZ];exact HMP.out.kept B0.out),Fr.refl _ _⟩
  case round=>
   clear S0
   obtain⟨j,v,hj,rfl,hlp⟩:=hrel
   obtain⟨qv,cv,rfl⟩:=aZ hlp.own
   have LP:=aD hlp
   have CW:Hid (CK w wr):=fQ MB.out HBS.out.1 B0.out hlp.fr
   clear hlp
   by_cases hjl:j < t.ks.length
   ·have e0:(j:Int) < (t.f.kl:Int):=by rw [HKL.out];omega
    obtain⟨u,hu⟩:∃ u,t.ks[j]?=some u:=⟨_,List.getElem?_eq_getElem hjl⟩
    obtain⟨gq,off,hq,hgl,hsix⟩:=HK3.out j u hu
    rw [hq]
    obtain⟨c0,c1,c2,c3,c4,c5⟩:=hsix.ck CW.out hgl
    have HU:=aD hu
    have hin:u∈t.ks:=List.mem_of_getElem? hu
    clear hsix hu
    have SK:Hid (Fr (Wr2 bb bs) W0 (wr.alloc (.cells #[.int .i64 u.f.k,.int .i64 u.f.n,.int .i64 u.f.mn,.int .i64 u.f.mx,.slice u.f.rq u.f.rs.length u.f.rc,.slice u.f.kq u.f.kl u.f.kc] 25)).drew/\BoxN (wr.alloc (.cells #[.int .i64 u.f.k,.int .i64 u.f.n,.int .i64 u.f.mn,.int .i64 u.f.mx,.slice u.f.rq u.f.rs.length u.f.rc,.slice u.f.kq u.f.kl u.f.kc] 25)).drew wr.heap.size u.f):=⟨(LP.out.fr.alloc _).drew,aE wr _⟩
    have NE:Hid (¬ wr.heap.size=bb/\¬ bb=bs):=⟨fun e=>by have:=LP.out.mp.lt;omega,fun e=>by
     obtain⟨es,cl,hb⟩:=LP.out.mp.block
     rw [e,LP.out.sc] at hb
     cases hb⟩
    have NE3:Hid (wr.heap.size≠bs):=fun e=>by have:=aB LP.out.sc;omega
    have CB:Hid ((wr.alloc (.cells #[.int .i64 u.f.k,.int .i64 u.f.n,.int .i64 u.f.mn,.int .i64 u.f.mx,.slice u.f.rq u.f.rs.length u.f.rc,.slice u.f.kq u.f.kl u.f.kc] 25)).drew.heap[bs]?=some (.cells (dE t.f c o (.slice qv j cv) (.func (.func 82) #[] #[bx bp])) 138 (0,0))):=(Below.heap_alloc wr _ _ (aB LP.out.sc)).trans LP.out.sc
    have k8:(wr.alloc (.cells #[.int .i64 u.f.k,.int .i64 u.f.n,.int .i64 u.f.mn,.int .i64 u.f.mx,.slice u.f.rq u.f.rs.length u.f.rc,.slice u.f.kq u.f.kl u.f.kc] 25)).drew.cell? ⟨bs,8,none⟩=some (.slice qv j cv):=aA CB.out (i:=8) rfl
    have QC:Hid (∀ w',(Fr (Wr2 bb bs) W0 w'/\BoxN w' wr.heap.size u.f)->w'.cell? ⟨bo,0,none⟩=some (.func (.func 83) #[] #[bx bm,bx bg,bx bo,bx br,bx bp])/\w'.cell? ⟨wr.heap.size,0,none⟩=some (.int .i64 u.f.k)/\w'.cell? ⟨wr.heap.size,1,none⟩=some (.int .i64 u.f.n)/\w'.cell? ⟨wr.heap.size,2,none⟩=some (.int .i64 u.f.mn)/\w'.cell? ⟨wr.heap.size,3,none⟩=some (.int .i64 u.f.mx)/\w'.cell? ⟨wr.heap.size,4,none⟩=some (.slice u.f.rq u.f.rs.length u.f.rc)/\w'.cell? ⟨wr.heap.size,5,none⟩=some (.slice u.f.kq u.f.kl u.f.kc)):=fun w' hS=>by
     have six:=hS.2.six
     simp only [Six,Nat.zero_add] at six
     exact⟨aA (HTW.out.ck (fQ MB.out HBS.out.1 B0.out hS.1)).o (i:=0) rfl,six⟩
    have MK:Hid (MapV (wr.alloc (.cells #[.int .i64 u.f.k,.int .i64 u.f.n,.int .i64 u.f.mn,.int .i64 u.f.mx,.slice u.f.rq u.f.rs.length u.f.rc,.slice u.f.kq u.f.kl u.f.kc] 25)).drew (.agg #[.int .u64 0,.int .u64 0,.int .u64 0,.int .u64 0,.bool false]) bb (n+szs (t.ks.take j)) (fun i=>enS ((evs ρ g (t.ks.take j)).2 i))):=LP.out.mp.kept ((bz9).drew)
    have OK:Hid ((wr.alloc (.cells #[.int .i64 u.f.k,.int .i64 u.f.n,.int .i64 u.f.mn,.int .i64 u.f.mx,.slice u.f.rq u.f.rs.length u.f.rc,.slice u.f.kq u.f.kl u.f.kc] 25)).drew.ownsRow W0.heap.size 76 5 (.slice qv j cv) j (ceS (evs ρ g (t.ks.take j)).1)):=World.ownsRow.drew (World.ownsRow.alloc LP.out.own _)
    have CK2:Hid (CK w (wr.alloc (.cells #[.int .i64 u.f.k,.int .i64 u.f.n,.int .i64 u.f.mn,.int .i64 u.f.mx,.slice u.f.rq u.f.rs.length u.f.rc,.slice u.f.kq u.f.kl u.f.kc] 25)).drew):=fQ MB.out HBS.out.1 B0.out SK.out.1
    have LJ:=aD (show j<=1000000 by have:=eM t.ks;have:=hkz.out;have:=HN.out;omega)
    have IH0:=IH.out u (wr.alloc (.cells #[.int .i64 u.f.k,.int .i64 u.f.n,.int .i64 u.f.mn,.int .i64 u.f.mx,.slice u.f.rq u.f.rs.length u.f.rc,.slice u.f.kq u.f.kl u.f.kc] 25)).drew (n+szs (t.ks.take j)) (evs ρ g (t.ks.take j)).2 (by have:=dM hin;have:=HM.out;omega)
     (by have:=pP t.ks (j+1);rw [cC HU.out] at this;have:=hkz.out;have:=HN.out;omega) (hglo CK2.out HGW.out) ((HTA.out.ck CK2.out).kid hin) (bI HNP.out hin)
     (eY HG.out (t.ks.take j) g (fun u hu=>bI HNP.out (List.mem_of_mem_take hu)) HGD.out).2 (HTW.out.ck CK2.out) MK.out
    obtain⟨x5,hx5⟩:∃ x,(ev ρ (evs ρ g (t.ks.take j)).2 u).1=x:=⟨_,rfl⟩
    have IHU:Hid (Calls Tryz.prog 83 #[.agg #[.int .i64 u.f.k,.int .i64 u.f.n,.int .i64 u.f.mn,.int .i64 u.f.mx,.slice u.f.rq u.f.rs.length u.f.rc,.slice u.f.kq u.f.kl u.f.kc],bx bm,bx bg,bx bo,bx br,bx bp] (wr.alloc (.cells #[.int .i64 u.f.k,.int .i64 u.f.n,.int .i64 u.f.mn,.int .i64 u.f.mx,.slice u.f.rq u.f.rs.length u.f.rc,.slice u.f.kq u.f.kl u.f.kc] 25)).drew (fun e w'=>e=.returned (.agg #[.int .u64 (aC x5.1 0),.int .u64 (aC x5.1 1),.int .u64 (aC x5.1 2),.int .u64 (aC x5.1 3),.bool x5.2])/\MapV w' (.agg #[.int .u64 0,.int .u64 0,.int .u64 0,.int .u64 0,.bool false]) bb (n+szs (t.ks.take j)+u.sz) (fun i=>enS ((ev ρ (evs ρ g (t.ks.take j)).2 u).2 i))/\Fr (fun k=>k=bb) (wr.alloc (.cells #[.int .i64 u.f.k,.int .i64 u.f.n,.int .i64 u.f.mn,.int .i64 u.f.mx,.slice u.f.rq u.f.rs.length u.f.rc,.slice u.f.kq u.f.kl u.f.kc] 25)).drew w')):=aD (by subst hx5;exact IH0)
    have HX5:=aD hx5
    clear hin IH0 hx5
    go_wp2
    refine wp_region_held_drew (S:=fun w'=>Fr (Wr2 bb bs) W0 w'/\BoxN w' wr.heap.size u.f) (by kernel_rfl) SK.out (fun hHeld=>?_)
    refine wpAnyH_take (i:=0) (oi:=_) (v:=?_) rfl (by kernel_rfl) (by kernel_rfl) (by kernel_rfl) (fun _ _ _ h=>h) (Or.inl ⟨by rfl,?_⟩) (by assumption) ?_
    rotate_left
    ·intro wz hSw;obtain⟨q0,q1,q2,q3,q4,q5,q6⟩:=QC.out wz hSw;clear hSw;go_simp;try with_reducible rfl
    dsimp only [Act.put,List.getElem_toArray,List.getElem_cons_zero,List.getElem_cons_succ]
    simp only [List.setIfInBounds_toArray,List.set_cons_zero,List.set_cons_succ]
    refine wpAnyH_take (i:=2) (oi:=_) (v:=?_) rfl (by kernel_rfl) (by kernel_rfl) (by kernel_rfl) (fun _ _ _ h=>h) (Or.inl ⟨by rfl,?_⟩) (by assumption) ?_
    rotate_left
    ·intro wz hSw;obtain⟨q0,q1,q2,q3,q4,q5,q6⟩:=QC.out wz hSw;clear hSw;go_simp;try with_reducible rfl
    dsimp only [Act.put,List.getElem_toArray,List.getElem_cons_zero,List.getElem_cons_succ]
    simp only [List.setIfInBounds_toArray,List.set_cons_zero,List.set_cons_succ]
    refine wpAnyH_take (i:=3) (oi:=_) (v:=?_) rfl (by kernel_rfl) (by kernel_rfl) (by kernel_rfl) (fun _ _ _ h=>h) (Or.inl ⟨by rfl,?_⟩) (by assumption) ?_
    rotate_left
    ·intro wz hSw;obtain⟨q0,q1,q2,q3,q4,q5,q6⟩:=QC.out wz hSw;clear hSw;go_simp;try with_reducible rfl
    dsimp only [Act.put,List.getElem_toArray,List.getElem_cons_zero,List.getElem_cons_succ]
    simp only [List.setIfInBounds_toArray,List.set_cons_zero,List.set_cons_succ]
    refine wpAnyH_ready (rs:=[1,4]) (by kernel_rfl) (by simp) ?_
    refine AllReadyH.cons rfl (fun K hK=>?_) (AllReadyH.cons rfl (fun K hK=>?_) AllReadyH.nil)
    ·go_simp
     refine hK.out _ _ SK.out (fun hHeld1=>?_)
     clear hK K
     refine wpAnyH_ready (rs:=[4]) (by kernel_rfl) (by simp) ?_
     refine AllReadyH.cons rfl (fun K hK=>?_) AllReadyH.nil
     go_simp
     go_at_call 83
     refine IHU.out.mono ?_
     rintro e w5 ⟨rfl,hm5,hf5⟩
     have M5:=aD hm5
     have F5:=aD hf5
     clear hm5 hf5
     have S5:Hid (Fr (Wr2 bb bs) W0 w5/\BoxN w5 wr.heap.size u.f):=⟨SK.out.1.trans (F5.out.mono (fun k e=>.inl e)),(F5.out.block _ (aB SK.out.2) (fun e=>NE.out.1 e)).trans SK.out.2⟩
     refine hK.out _ _ S5.out (fun hHeld2=>?_)
     clear hK K
     refine wpAnyH_ready (rs:=[5]) (by kernel_rfl) (by simp) ?_
     refine AllReadyH.cons rfl (fun K hK=>?_) AllReadyH.nil
     go_simp
     have S6:Hid (Fr (Wr2 bb bs) W0 (w5.alloc (.cells #[.int .u64 (aC x5.1 0),.int .u64 (aC x5.1 1),.int .u64 (aC x5.1 2),.int .u64 (aC x5.1 3),.bool x5.2] 76))/\BoxN (w5.alloc (.cells #[.int .u64 (aC x5.1 0),.int .u64 (aC x5.1 1),.int .u64 (aC x5.1 2),.int .u64 (aC x5.1 3),.bool x5.2] 76)) wr.heap.size u.f):=⟨S5.out.1.alloc _,(Below.heap_alloc _ _ _ (aB S5.out.2)).trans S5.out.2⟩
     refine hK.out _ _ S6.out (fun hHeld3=>?_)
     clear hK K
     refine wpAnyH_ready (rs:=[6]) (by kernel_rfl) (by simp) ?_
     refine AllReadyH.cons rfl (fun K hK=>?_) AllReadyH.nil
     have O6:Hid ((w5.alloc (.cells #[.int .u64 (aC x5.1 0),.int .u64 (aC x5.1 1),.int .u64 (aC x5.1 2),.int .u64 (aC x5.1 3),.bool x5.2] 76)).ownsRow W0.heap.size 76 5 (.slice qv j cv) j (ceS (evs ρ g (t.ks.take j)).1)):=World.ownsRow.alloc (aM OK.out F5.out (fun k e z=>bS OK.out MK.out.block (z ▸ e))) _
     refine bF rfl _ _ 136 rfl W0.heap.size 76 t0 (.agg #[.int .u64 0,.int .u64 0,.int .u64 0,.int .u64 0,.bool false]) 5 40 aC4 TI.out.1 TI.out.2.1 TI.out.2.2.1 TI.out.2.2.2 rfl (by decide) (.slice qv j cv) j (ceS (evs ρ g (t.ks.take j)).1) (by simp [Act.eval]) O6.out ⟨w5.heap.size,0,none⟩ 1 1 [.int .u64 (aC x5.1 0),.int .u64 (aC x5.1 1),.int .u64 (aC x5.1 2),.int .u64 (aC x5.1 3),.bool x5.2] (by simp [Act.eval]) rfl (cR w5 [.int .u64 (aC x5.1 0),.int .u64 (aC x5.1 1),.int .u64 (aC x5.1 2),.int .u64 (aC x5.1 3),.bool x5.2] _) (by simp [Value.oneCell']) (by have:=LJ.out;unfold maxLen;omega) (by have:=LJ.out;omega) (Nat.le_trans S5.out.1.size (by simp only [World.size_alloc];omega)) ?_
     intro v' w6 hown' hgrow hblk
     obtain⟨g6,cap6,rfl⟩:=aL hown' (Nat.succ_pos _)
     have O7:=aD hown'
     have G6:=aD hgrow
     clear hown' hgrow hblk
     have S7:Hid (Fr (Wr2 bb bs) W0 w6/\BoxN w6 wr.heap.size u.f):=⟨S6.out.1.grownNew G6.out (fun k e=>(aH O6.out e).1),(G6.out.block _ (aB S6.out.2) (fun e=>by
      have:=(aH LP.out.own e.symm).2.1
      omega)).trans S6.out.2⟩
     have C7:Hid (w6.heap[bs]?=some (.cells (dE t.f c o (.slice qv j cv) (.func (.func 82) #[] #[bx bp])) 138 (0,0))):=(by
      have e5:=(F5.out.block _ (aB CB.out) (fun e=>NE.out.2 e.symm)).trans CB.out
      have e6:=(Below.heap_alloc w5 (.cells #[.int .u64 (aC x5.1 0),.int .u64 (aC x5.1 1),.int .u64 (aC x5.1 2),.int .u64 (aC x5.1 3),.bool x5.2] 76) _ (aB e5)).trans e5
      exact(G6.out.block _ (aB e6) (fun e=>aP O6.out e6 (by decide) e.symm)).trans e6)
     have M7:Hid (MapV w6 (.agg #[.int .u64 0,.int .u64 0,.int .u64 0,.int .u64 0,.bool false]) bb (n+szs (t.ks.take j)+u.sz) (fun i=>enS ((ev ρ (evs ρ g (t.ks.take j)).2 u).2 i))):=(by
      have m6:=M5.out.kept ((Below.refl _ _).alloc lz9 (.cells #[.int .u64 (aC x5.1 0),.int .u64 (aC x5.1 1),.int .u64 (aC x5.1 2),.int .u64 (aC x5.1 3),.bool x5.2] 76))
      exact m6.same (G6.out.block _ m6.lt (fun e=>bS O6.out m6.block e.symm)))
     refine hK.out _ _ S7.out (fun hHeld4=>?_)
     clear hK K
     refine wpAnyH_take (i:=7) (oi:=_) (v:=?_) rfl (by kernel_rfl) (by kernel_rfl) (by kernel_rfl) (fun _ _ _ h=>h) (Or.inl ⟨by rfl,?_⟩) (by assumption) ?_
     rotate_left
     ·intro wz hSw;obtain⟨q0,q1,q2,q3,q4,q5,q6⟩:=QC.out wz hSw;clear hSw;go_simp;try with_reducible rfl
     dsimp only [Act.put,List.getElem_toArray,List.getElem_cons_zero,List.getElem_cons_succ]
     simp only [List.setIfInBounds_toArray,List.set_cons_zero,List.set_cons_succ]
     refine wpAnyH_ready (rs:=[8]) (by kernel_rfl) (by simp) ?_
     refine AllReadyH.cons rfl (fun K hK=>?_) AllReadyH.nil
     have k7:w6.cell? ⟨bs,8,none⟩=some (.slice qv j cv):=aA C7.out (i:=8) rfl
     have fz:=aG C7.out 8
     go_simp
     have S8:Hid (Fr (Wr2 bb bs) W0 (w6.setCell ⟨bs,8,none⟩ (.slice (some ⟨g6,0,none⟩) (j+1) cap6))/\BoxN (w6.setCell ⟨bs,8,none⟩ (.slice (some ⟨g6,0,none⟩) (j+1) cap6)) wr.heap.size u.f):=⟨S7.out.1.setCell (p:=⟨bs,8,none⟩) (.inr rfl) _,(Below.heap_setCell _ _ _ _ (fun e=>NE3.out e)).trans S7.out.2⟩
     refine hK.out _ _ S8.out (fun hHeld5=>?_)
     clear hK K
     refine wpAnyH_done (by kernel_rfl) ?_ _
     have LQ:Hid (LpS ρ W0 (w6.setCell ⟨bs,8,none⟩ (.slice (some ⟨g6,0,none⟩) (j+1) cap6)) bb bs n t c o g (j+1) (.slice (some ⟨g6,0,none⟩) (j+1) cap6) (.func (.func 82) #[] #[bx bp])):=by
      obtain⟨ea,eb⟩:=dJ (ρ:=ρ) HU.out g
      refine⟨aO C7.out 8 _,?_,?_,S8.out.1⟩
      ·rw [ea,wX,HX5.out]
       exact aM O7.out ((Fr.refl (fun k=>k=bs) w6).setCell (p:=⟨bs,8,none⟩) rfl _) (fun k e z=>aP O7.out C7.out (by decide) (z ▸ e))
      ·rw [eb,cC HU.out,<- Nat.add_assoc]
       exact M7.out.fr ((Fr.refl (fun k=>k=bs) w6).setCell (p:=⟨bs,8,none⟩) rfl _) (fun e=>by
        obtain⟨es,cl,hb⟩:=M7.out.block
        rw [e,C7.out] at hb
        cases hb)
     clear k7 fz
     go_wp2
     go_roundw
     case rel=>exact⟨j+1,_,by omega,by go_num,LQ.out⟩
     case measure=>simp only [intOf];omega
    ·go_simp
     go_at_call 83
     refine IHU.out.mono ?_
     rintro e w5 ⟨rfl,hm5,hf5⟩
     have M5:=aD hm5
     have F5:=aD hf5
     clear hm5 hf5
     have S5:Hid (Fr (Wr2 bb bs) W0 w5/\BoxN w5 wr.heap.size u.f):=⟨SK.out.1.trans (F5.out.mono (fun k e=>.inl e)),(F5.out.block _ (aB SK.out.2) (fun e=>NE.out.1 e)).trans SK.out.2⟩
     refine hK.out _ _ S5.out (fun hHeld1=>?_)
     clear hK K
     refine wpAnyH_ready (rs:=[1,5]) (by kernel_rfl) (by simp) ?_
     refine AllReadyH.cons rfl (fun K hK=>?_) (AllReadyH.cons rfl (fun K hK=>?_) AllReadyH.nil)
     ·have k9:w5.cell? ⟨bs,8,none⟩=some (.slice qv j cv):=aA ((F5.out.block _ (aB CB.out) (fun e=>NE.out.2 e.symm)).trans CB.out) (i:=8) rfl
      go_simp
      refine hK.out _ _ S5.out (fun hHeld2=>?_)
      clear hK K
      refine wpAnyH_ready (rs:=[5]) (by kernel_rfl) (by simp) ?_
      refine AllReadyH.cons rfl (fun K hK=>?_) AllReadyH.nil
      go_simp
      have S6:Hid (Fr (Wr2 bb bs) W0 (w5.alloc (.cells #[.int .u64 (aC x5.1 0),.int .u64 (aC x5.1 1),.int .u64 (aC x5.1 2),.int .u64 (aC x5.1 3),.bool x5.2] 76))/\BoxN (w5.alloc (.cells #[.int .u64 (aC x5.1 0),.int .u64 (aC x5.1 1),.int .u64 (aC x5.1 2),.int .u64 (aC x5.1 3),.bool x5.2] 76)) wr.heap.size u.f):=⟨S5.out.1.alloc _,(Below.heap_alloc _ _ _ (aB S5.out.2)).trans S5.out.2⟩
      refine hK.out _ _ S6.out (fun hHeld3=>?_)
      clear hK K
      refine wpAnyH_ready (rs:=[6]) (by kernel_rfl) (by simp) ?_
      refine AllReadyH.cons rfl (fun K hK=>?_) AllReadyH.nil
      have O6:Hid ((w5.alloc (.cells #[.int .u64 (aC x5.1 0),.int .u64 (aC x5.1 1),.int .u64 (aC x5.1 2),.int .u64 (aC x5.1 3),.bool x5.2] 76)).ownsRow W0.heap.size 76 5 (.slice qv j cv) j (ceS (evs ρ g (t.ks.take j)).1)):=World.ownsRow.alloc (aM OK.out F5.out (fun k e z=>bS OK.out MK.out.block (z ▸ e))) _
      refine bF rfl _ _ 136 rfl W0.heap.size 76 t0 (.agg #[.int .u64 0,.int .u64 0,.int .u64 0,.int .u64 0,.bool false]) 5 40 aC4 TI.out.1 TI.out.2.1 TI.out.2.2.1 TI.out.2.2.2 rfl (by decide) (.slice qv j cv) j (ceS (evs ρ g (t.ks.take j)).1) (by simp [Act.eval]) O6.out ⟨w5.heap.size,0,none⟩ 1 1 [.int .u64 (aC x5.1 0),.int .u64 (aC x5.1 1),.int .u64 (aC x5.1 2),.int .u64 (aC x5.1 3),.bool x5.2] (by simp [Act.eval]) rfl (cR w5 [.int .u64 (aC x5.1 0),.int .u64 (aC x5.1 1),.int .u64 (aC x5.1 2),.int .u64 (aC x5.1 3),.bool x5.2] _) (by simp [Value.oneCell']) (by have:=LJ.out;unfold maxLen;omega) (by have:=LJ.out;omega) (Nat.le_trans S5.out.1.size (by simp only [World.size_alloc];omega)) ?_
      intro v' w6 hown' hgrow hblk
      obtain⟨g6,cap6,rfl⟩:=aL hown' (Nat.succ_pos _)
      have O7:=aD hown'
      have G6:=aD hgrow
      clear hown' hgrow hblk
      have S7:Hid (Fr (Wr2 bb bs) W0 w6/\BoxN w6 wr.heap.size u.f):=⟨S6.out.1.grownNew G6.out (fun k e=>(aH O6.out e).1),(G6.out.block _ (aB S6.out.2) (fun e=>by
       have:=(aH LP.out.own e.symm).2.1
       omega)).trans S6.out.2⟩
      have C7:Hid (w6.heap[bs]?=some (.cells (dE t.f c o (.slice qv j cv) (.func (.func 82) #[] #[bx bp])) 138 (0,0))):=(by
       have e5:=(F5.out.block _ (aB CB.out) (fun e=>NE.out.2 e.symm)).trans CB.out
       have e6:=(Below.heap_alloc w5 (.cells #[.int .u64 (aC x5.1 0),.int .u64 (aC x5.1 1),.int .u64 (aC x5.1 2),.int .u64 (aC x5.1 3),.bool x5.2] 76) _ (aB e5)).trans e5
       exact(G6.out.block _ (aB e6) (fun e=>aP O6.out e6 (by decide) e.symm)).trans e6)
      have M7:Hid (MapV w6 (.agg #[.int .u64 0,.int .u64 0,.int .u64 0,.int .u64 0,.bool false]) bb (n+szs (t.ks.take j)+u.sz) (fun i=>enS ((ev ρ (evs ρ g (t.ks.take j)).2 u).2 i))):=(by
       have m6:=M5.out.kept ((Below.refl _ _).alloc lz9 (.cells #[.int .u64 (aC x5.1 0),.int .u64 (aC x5.1 1),.int .u64 (aC x5.1 2),.int .u64 (aC x5.1 3),.bool x5.2] 76))
       exact m6.same (G6.out.block _ m6.lt (fun e=>bS O6.out m6.block e.symm)))
      refine hK.out _ _ S7.out (fun hHeld4=>?_)
      clear hK K
      refine wpAnyH_take (i:=7) (oi:=_) (v:=?_) rfl (by kernel_rfl) (by kernel_rfl) (by kernel_rfl) (fun _ _ _ h=>h) (Or.inl ⟨by rfl,?_⟩) (by assumption) ?_
      rotate_left
      ·intro wz hSw;obtain⟨q0,q1,q2,q3,q4,q5,q6⟩:=QC.out wz hSw;clear hSw;go_simp;try with_reducible rfl
      dsimp only [Act.put,List.getElem_toArray,List.getElem_cons_zero,List.getElem_cons_succ]
      simp only [List.setIfInBounds_toArray,List.set_cons_zero,List.set_cons_succ]
      refine wpAnyH_ready (rs:=[8]) (by kernel_rfl) (by simp) ?_
      refine AllReadyH.cons rfl (fun K hK=>?_) AllReadyH.nil
      have k7:w6.cell? ⟨bs,8,none⟩=some (.slice qv j cv):=aA C7.out (i:=8) rfl
      have fz:=aG C7.out 8
      go_simp
      have S8:Hid (Fr (Wr2 bb bs) W0 (w6.setCell ⟨bs,8,none⟩ (.slice (some ⟨g6,0,none⟩) (j+1) cap6))/\BoxN (w6.setCell ⟨bs,8,none⟩ (.slice (some ⟨g6,0,none⟩) (j+1) cap6)) wr.heap.size u.f):=⟨S7.out.1.setCell (p:=⟨bs,8,none⟩) (.inr rfl) _,(Below.heap_setCell _ _ _ _ (fun e=>NE3.out e)).trans S7.out.2⟩
      refine hK.out _ _ S8.out (fun hHeld5=>?_)
      clear hK K
      refine wpAnyH_done (by kernel_rfl) ?_ _
      have LQ:Hid (LpS ρ W0 (w6.setCell ⟨bs,8,none⟩ (.slice (some ⟨g6,0,none⟩) (j+1) cap6)) bb bs n t c o g (j+1) (.slice (some ⟨g6,0,none⟩) (j+1) cap6) (.func (.func 82) #[] #[bx bp])):=by
       obtain⟨ea,eb⟩:=dJ (ρ:=ρ) HU.out g
       refine⟨aO C7.out 8 _,?_,?_,S8.out.1⟩
       ·rw [ea,wX,HX5.out]
        exact aM O7.out ((Fr.refl (fun k=>k=bs) w6).setCell (p:=⟨bs,8,none⟩) rfl _) (fun k e z=>aP O7.out C7.out (by decide) (z ▸ e))
       ·rw [eb,cC HU.out,<- Nat.add_assoc]
        exact M7.out.fr ((Fr.refl (fun k=>k=bs) w6).setCell (p:=⟨bs,8,none⟩) rfl _) (fun e=>by
         obtain⟨es,cl,hb⟩:=M7.out.block
         rw [e,C7.out] at hb
         cases hb)
      clear k7 fz
      go_wp2
      go_roundw
      case rel=>exact⟨j+1,_,by omega,by go_num,LQ.out⟩
      case measure=>simp only [intOf];omega
     ·go_simp
      have S6:Hid (Fr (Wr2 bb bs) W0 (w5.alloc (.cells #[.int .u64 (aC x5.1 0),.int .u64 (aC x5.1 1),.int .u64 (aC x5.1 2),.int .u64 (aC x5.1 3),.bool x5.2] 76))/\BoxN (w5.alloc (.cells #[.int .u64 (aC x5.1 0),.int .u64 (aC x5.1 1),.int .u64 (aC x5.1 2),.int .u64 (aC x5.1 3),.bool x5.2] 76)) wr.heap.size u.f):=⟨S5.out.1.alloc _,(Below.heap_alloc _ _ _ (aB S5.out.2)).trans S5.out.2⟩
      refine hK.out _ _ S6.out (fun hHeld2=>?_)
      clear hK K
      refine wpAnyH_ready (rs:=[1]) (by kernel_rfl) (by simp) ?_
      refine AllReadyH.cons rfl (fun K hK=>?_) AllReadyH.nil
      have k9:(w5.alloc (.cells #[.int .u64 (aC x5.1 0),.int .u64 (aC x5.1 1),.int .u64 (aC x5.1 2),.int .u64 (aC x5.1 3),.bool x5.2] 76)).cell? ⟨bs,8,none⟩=some (.slice qv j cv):=(by have e5:=(F5.out.block _ (aB CB.out) (fun e=>NE.out.2 e.symm)).trans CB.out;exact aA ((Below.heap_alloc w5 (.cells #[.int .u64 (aC x5.1 0),.int .u64 (aC x5.1 1),.int .u64 (aC x5.1 2),.int .u64 (aC x5.1 3),.bool x5.2] 76) _ (aB e5)).trans e5) (i:=8) rfl)
      go_simp
      refine hK.out _ _ S6.out (fun hHeld3=>?_)
      clear hK K
      refine wpAnyH_ready (rs:=[6]) (by kernel_rfl) (by simp) ?_
      refine AllReadyH.cons rfl (fun K hK=>?_) AllReadyH.nil
      have O6:Hid ((w5.alloc (.cells #[.int .u64 (aC x5.1 0),.int .u64 (aC x5.1 1),.int .u64 (aC x5.1 2),.int .u64 (aC x5.1 3),.bool x5.2] 76)).ownsRow W0.heap.size 76 5 (.slice qv j cv) j (ceS (evs ρ g (t.ks.take j)).1)):=World.ownsRow.alloc (aM OK.out F5.out (fun k e z=>bS OK.out MK.out.block (z ▸ e))) _
      refine bF rfl _ _ 136 rfl W0.heap.size 76 t0 (.agg #[.int .u64 0,.int .u64 0,.int .u64 0,.int .u64 0,.bool false]) 5 40 aC4 TI.out.1 TI.out.2.1 TI.out.2.2.1 TI.out.2.2.2 rfl (by decide) (.slice qv j cv) j (ceS (evs ρ g (t.ks.take j)).1) (by simp [Act.eval]) O6.out ⟨w5.heap.size,0,none⟩ 1 1 [.int .u64 (aC x5.1 0),.int .u64 (aC x5.1 1),.int .u64 (aC x5.1 2),.int .u64 (aC x5.1 3),.bool x5.2] (by simp [Act.eval]) rfl (cR w5 [.int .u64 (aC x5.1 0),.int .u64 (aC x5.1 1),.int .u64 (aC x5.1 2),.int .u64 (aC x5.1 3),.bool x5.2] _) (by simp [Value.oneCell']) (by have:=LJ.out;unfold maxLen;omega) (by have:=LJ.out;omega) (Nat.le_trans S5.out.1.size (by simp only [World.size_alloc];omega)) ?_
      intro v' w6 hown' hgrow hblk
      obtain⟨g6,cap6,rfl⟩:=aL hown' (Nat.succ_pos _)
      have O7:=aD hown'
      have G6:=aD hgrow
      clear hown' hgrow hblk
      have S7:Hid (Fr (Wr2 bb bs) W0 w6/\BoxN w6 wr.heap.size u.f):=⟨S6.out.1.grownNew G6.out (fun k e=>(aH O6.out e).1),(G6.out.block _ (aB S6.out.2) (fun e=>by
       have:=(aH LP.out.own e.symm).2.1
       omega)).trans S6.out.2⟩
      have C7:Hid (w6.heap[bs]?=some (.cells (dE t.f c o (.slice qv j cv) (.func (.func 82) #[] #[bx bp])) 138 (0,0))):=(by
       have e5:=(F5.out.block _ (aB CB.out) (fun e=>NE.out.2 e.symm)).trans CB.out
       have e6:=(Below.heap_alloc w5 (.cells #[.int .u64 (aC x5.1 0),.int .u64 (aC x5.1 1),.int .u64 (aC x5.1 2),.int .u64 (aC x5.1 3),.bool x5.2] 76) _ (aB e5)).trans e5
       exact(G6.out.block _ (aB e6) (fun e=>aP O6.out e6 (by decide) e.symm)).trans e6)
      have M7:Hid (MapV w6 (.agg #[.int .u64 0,.int .u64 0,.int .u64 0,.int .u64 0,.bool false]) bb (n+szs (t.ks.take j)+u.sz) (fun i=>enS ((ev ρ (evs ρ g (t.ks.take j)).2 u).2 i))):=(by
       have m6:=M5.out.kept ((Below.refl _ _).alloc lz9 (.cells #[.int .u64 (aC x5.1 0),.int .u64 (aC x5.1 1),.int .u64 (aC x5.1 2),.int .u64 (aC x5.1 3),.bool x5.2] 76))
       exact m6.same (G6.out.block _ m6.lt (fun e=>bS O6.out m6.block e.symm)))
      refine hK.out _ _ S7.out (fun hHeld4=>?_)
      clear hK K
      refine wpAnyH_take (i:=7) (oi:=_) (v:=?_) rfl (by kernel_rfl) (by kernel_rfl) (by kernel_rfl) (fun _ _ _ h=>h) (Or.inl ⟨by rfl,?_⟩) (by assumption) ?_
      rotate_left
      ·intro wz hSw;obtain⟨q0,q1,q2,q3,q4,q5,q6⟩:=QC.out wz hSw;clear hSw;go_simp;try with_reducible rfl
      dsimp only [Act.put,List.getElem_toArray,List.getElem_cons_zero,List.getElem_cons_succ]
      simp only [List.setIfInBounds_toArray,List.set_cons_zero,List.set_cons_succ]
      refine wpAnyH_ready (rs:=[8]) (by kernel_rfl) (by simp) ?_
      refine AllReadyH.cons rfl (fun K hK=>?_) AllReadyH.nil
      have k7:w6.cell? ⟨bs,8,none⟩=some (.slice qv j cv):=aA C7.out (i:=8) rfl
      have fz:=aG C7.out 8
      go_simp
      have S8:Hid (Fr (Wr2 bb bs) W0 (w6.setCell ⟨bs,8,none⟩ (.slice (some ⟨g6,0,none⟩) (j+1) cap6))/\BoxN (w6.setCell ⟨bs,8,none⟩ (.slice (some ⟨g6,0,none⟩) (j+1) cap6)) wr.heap.size u.f):=⟨S7.out.1.setCell (p:=⟨bs,8,none⟩) (.inr rfl) _,(Below.heap_setCell _ _ _ _ (fun e=>NE3.out e)).trans S7.out.2⟩
      refine hK.out _ _ S8.out (fun hHeld5=>?_)
      clear hK K
      refine wpAnyH_done (by kernel_rfl) ?_ _
      have LQ:Hid (LpS ρ W0 (w6.setCell ⟨bs,8,none⟩ (.slice (some ⟨g6,0,none⟩) (j+1) cap6)) bb bs n t c o g (j+1) (.slice (some ⟨g6,0,none⟩) (j+1) cap6) (.func (.func 82) #[] #[bx bp])):=by
       obtain⟨ea,eb⟩:=dJ (ρ:=ρ) HU.out g
       refine⟨aO C7.out 8 _,?_,?_,S8.out.1⟩
       ·rw [ea,wX,HX5.out]
        exact aM O7.out ((Fr.refl (fun k=>k=bs) w6).setCell (p:=⟨bs,8,none⟩) rfl _) (fun k e z=>aP O7.out C7.out (by decide) (z ▸ e))
       ·rw [eb,cC HU.out,<- Nat.add_assoc]
        exact M7.out.fr ((Fr.refl (fun k=>k=bs) w6).setCell (p:=⟨bs,8,none⟩) rfl _) (fun e=>by
         obtain⟨es,cl,hb⟩:=M7.out.block
         rw [e,C7.out] at hb
         cases hb)
      clear k7 fz
      go_wp2
      go_roundw
      case rel=>exact⟨j+1,_,by omega,by go_num,LQ.out⟩
      case measure=>simp only [intOf];omega
   ·have e0:¬ (j:Int) < (t.f.kl:Int):=by rw [HKL.out];omega
    obtain rfl:j=t.ks.length:=by omega
    have hk:t.ks.take t.ks.length=t.ks:=List.take_length
    have XO:=aD (hk ▸ LP.out.own)
    have XM:=aD (hk ▸ LP.out.mp)
    have r0:wr.cell? ⟨br,0,none⟩=some (.func (.func 45) #[] #[]):=aA (HTW.out.ck CW.out).r (i:=0) rfl
    have s0:wr.cell? ⟨bs,0,none⟩=some (.int .i64 t.f.k):=aA LP.out.sc (i:=0) rfl
    have s1:wr.cell? ⟨bs,1,none⟩=some (.int .i64 t.f.n):=aA LP.out.sc (i:=1) rfl
    have s2:wr.cell? ⟨bs,2,none⟩=some (.int .i64 t.f.mn):=aA LP.out.sc (i:=2) rfl
    have s3:wr.cell? ⟨bs,3,none⟩=some (.int .i64 t.f.mx):=aA LP.out.sc (i:=3) rfl
    have s4:wr.cell? ⟨bs,4,none⟩=some (.slice t.f.rq t.f.rs.length t.f.rc):=aA LP.out.sc (i:=4) rfl
    have s5:wr.cell? ⟨bs,5,none⟩=some (.slice t.f.kq t.f.kl t.f.kc):=aA LP.out.sc (i:=5) rfl
    have s6:wr.cell? ⟨bs,6,none⟩=some (.bool c):=aA LP.out.sc (i:=6) rfl
    have s7:wr.cell? ⟨bs,7,none⟩=some (.bool o):=aA LP.out.sc (i:=7) rfl
    have s8:wr.cell? ⟨bs,8,none⟩=some (.slice qv t.ks.length cv):=aA LP.out.sc (i:=8) rfl
    have s9:wr.cell? ⟨bs,9,none⟩=some (.func (.func 82) #[] #[bx bp]):=aA LP.out.sc (i:=9) rfl
    clear hk
    obtain⟨gx,gy⟩:=eY HG.out t.ks g (fun u hu=>bI HNP.out hu) HGD.out
    have hC:=HR.out t (evs ρ g t.ks).1 (evs ρ g t.ks).2 wr (.slice qv t.ks.length cv) bp bb (n+szs t.ks) W0.heap.size (hglo CW.out HGW.out) ((bE t).1 HNP.out).1 (by have:=eM t.ks;have:=hkz.out;have:=HN.out;omega) ((HTA.out.ck CW.out).node) (gJ _ _) gx gy (by rw [gJ];exact XO.out) (HTW.out.ck CW.out).p XM.out
    simp only [dE,enS] at hC
    have HC:=aD hC
    clear hC gx gy
    have BN:Hid (BoxN wr w.heap.size t.f):=(LP.out.fr.block _ (aB N0.out) (fun z=>by
     rcases z with e | e
     ·obtain⟨es,cl,hb⟩:=MB.out
      rw [<- e,show W0.heap[w.heap.size]?=_ from N0.out] at hb
      cases hb
     ·have:=HBS.out.2.2;omega)).trans N0.out
    have BR:Hid (wr.heap[w.heap.size+1]?=some (.cells #[.int .u64 0,.int .u64 0,.int .u64 0,.int .u64 0,.bool false] 76 (0,0))):=(LP.out.fr.block _ (aB R0.out) (fun z=>by
     rcases z with e | e
     ·obtain⟨es,cl,hb⟩:=MB.out
      rw [<- e,R0.out] at hb
      cases hb
     ·have:=HBS.out.2.2;omega)).trans R0.out
    have hx:(ev ρ g t).1=ρ t.f t.ks (evs ρ g t.ks).1 (evs ρ g t.ks).2:=iV g t
    rw [<- hx] at HC
    have HS:=aD (jN (ρ:=ρ) g t)
    obtain⟨x,hxx⟩:∃ x,(ev ρ g t).1=x:=⟨_,rfl⟩
    rw [hxx] at HC HS
    have HX:=aD hxx
    clear hx hxx
    have FW:Hid (Fr (fun k=>k=bb) w wr):=sT HBS.out.1 B0.out LP.out.fr
    by_cases h7:t.f.k=7
    ·have h7b:(t.f.k==7)=true:=by simp [h7]
     have WF:Hid ((Lit.int .i64 t.f.n).wf=true):=HWF.out t ((bE t).1 HNP.out).1 h7
     rw [if_pos h7] at HS
     clear h7
     go_wp2_with first
      |(go_at_call 45;refine HC.out.mono ?_;rintro e w5 ⟨rfl,h5⟩;have B5:=aD h5;clear h5 s0 s1 s2 s3 s4 s5 s6 s7 s8 s9 r0;have N5:Hid (BoxN w5 w.heap.size t.f):=(B5.out.block _ (aB BN.out)).trans BN.out;have A5:Hid (Below w5.heap.size w5 (w5.alloc (.cells #[.int .u64 (aC x.1 0),.int .u64 (aC x.1 1),.int .u64 (aC x.1 2),.int .u64 (aC x.1 3),.bool x.2] 76))):=bz9;have N6:Hid (BoxN (w5.alloc (.cells #[.int .u64 (aC x.1 0),.int .u64 (aC x.1 1),.int .u64 (aC x.1 2),.int .u64 (aC x.1 3),.bool x.2] 76)) w.heap.size t.f):=(A5.out.block _ (aB N5.out)).trans N5.out;have R5:Hid ((w5.alloc (.cells #[.int .u64 (aC x.1 0),.int .u64 (aC x.1 1),.int .u64 (aC x.1 2),.int .u64 (aC x.1 3),.bool x.2] 76)).heap[w.heap.size+1]?=some (.cells #[.int .u64 0,.int .u64 0,.int .u64 0,.int .u64 0,.bool false] 76 (0,0))):=(A5.out.block _ (aB ((B5.out.block _ (aB BR.out)).trans BR.out))).trans ((B5.out.block _ (aB BR.out)).trans BR.out);have k0:(w5.alloc (.cells #[.int .u64 (aC x.1 0),.int .u64 (aC x.1 1),.int .u64 (aC x.1 2),.int .u64 (aC x.1 3),.bool x.2] 76)).cell? ⟨w.heap.size,0,none⟩=some (.int .i64 t.f.k):=N6.out.six.1;have k1:(w5.alloc (.cells #[.int .u64 (aC x.1 0),.int .u64 (aC x.1 1),.int .u64 (aC x.1 2),.int .u64 (aC x.1 3),.bool x.2] 76)).cell? ⟨w.heap.size,1,none⟩=some (.int .i64 t.f.n):=N6.out.six.2.1;have p0:(w5.alloc (.cells #[.int .u64 (aC x.1 0),.int .u64 (aC x.1 1),.int .u64 (aC x.1 2),.int .u64 (aC x.1 3),.bool x.2] 76)).cell? ⟨bp,0,none⟩=some (.map (some bb)):=aA (((HTW.out.ck CW.out).ck (CK.of_below B5.out)).ck (CK.of_below A5.out)).p (i:=0) rfl;have z0:=aA R5.out (i:=0) rfl;have z1:=aA R5.out (i:=1) rfl;have z2:=aA R5.out (i:=2) rfl;have z3:=aA R5.out (i:=3) rfl;have z4:=aA R5.out (i:=4) rfl;have fz:=fun z=>aG R5.out z)
      |(at_mapUpdate;refine eU _ rfl _ _ _ 133 rfl 76 aS3 (.agg #[.int .u64 0,.int .u64 0,.int .u64 0,.int .u64 0,.bool false]) bb (n+szs t.ks) (fun i=>enS ((evs ρ g t.ks).2 i)) rfl ((XM.out.kept B5.out).kept (bz9)) (by have:=HN.out;have:=hkz.out;unfold maxLen;omega) t.f.n rfl WF.out (enS x) rfl ?_;intro w6 hm6 hg6;have M6:=aD hm6;have G6:=aD hg6;clear hm6 hg6;have C6:Hid (CK (w5.alloc (.cells #[.int .u64 (aC x.1 0),.int .u64 (aC x.1 1),.int .u64 (aC x.1 2),.int .u64 (aC x.1 3),.bool x.2] 76)) w6):=wV ((XM.out.kept B5.out).kept A5.out).block ((Fr.refl _ _).grown G6.out (fun k e=>by injection e with e;exact e.symm));have R6:Hid (w6.heap[w.heap.size+1]?=some (.cells #[.int .u64 0,.int .u64 0,.int .u64 0,.int .u64 0,.bool false] 76 (0,0))):=C6.out.same _ _ _ _ (aB R5.out) R5.out;have X6:Hid (w6.heap[w5.heap.size]?=some (.cells #[.int .u64 (aC x.1 0),.int .u64 (aC x.1 1),.int .u64 (aC x.1 2),.int .u64 (aC x.1 3),.bool x.2] 76 (0,0))):=C6.out.same _ _ _ _ (aB (aE w5 _)) (aE w5 _);clear fz z0 z1 z2 z3 z4;have z0:=aA R6.out (i:=0) rfl;have x0:=aA X6.out (i:=0) rfl;have z1:=aA R6.out (i:=1) rfl;have x1:=aA X6.out (i:=1) rfl;have z2:=aA R6.out (i:=2) rfl;have x2:=aA X6.out (i:=2) rfl;have z3:=aA R6.out (i:=3) rfl;have x3:=aA X6.out (i:=3) rfl;have z4:=aA R6.out (i:=4) rfl;have x4:=aA X6.out (i:=4) rfl;have fz:=fun z=>aG R6.out z)
     refine aI0 (b:=w.heap.size+1) (x:=x) (bA R6.out [.int .u64 (aC x.1 0),.int .u64 (aC x.1 1),.int .u64 (aC x.1 2),.int .u64 (aC x.1 3),.bool x.2] rfl) rfl rfl ?_
     have F7:=aV (w.heap.size+1) [.int .u64 (aC x.1 0),.int .u64 (aC x.1 1),.int .u64 (aC x.1 2),.int .u64 (aC x.1 3),.bool x.2] 0 w6
     refine⟨by rw [HX.out],?_,?_⟩
     ·rw [HS.out,<- rS,show n+t.sz=n+szs t.ks+1 by have:=hkz.out;omega]
      exact M6.out.fr F7 (fun e=>by
       obtain⟨es,cl,hb⟩:=M6.out.block
       rw [e,R6.out] at hb
       cases hb)
     ·exact lY (((FW.out.then B5.out).then (bz9)).grown G6.out (fun k e=>by injection e with e;exact e.symm)) F7 (by omega)
    ·have h7b:(t.f.k==7)=false:=by simp [h7]
     rw [if_neg h7] at HS
     clear h7
     go_wp2_with first
      |(go_at_call 45;refine HC.out.mono ?_;rintro e w5 ⟨rfl,h5⟩;have B5:=aD h5;clear h5 s0 s1 s2 s3 s4 s5 s6 s7 s8 s9 r0;have N5:Hid (BoxN w5 w.heap.size t.f):=(B5.out.block _ (aB BN.out)).trans BN.out;have A5:Hid (Below w5.heap.size w5 (w5.alloc (.cells #[.int .u64 (aC x.1 0),.int .u64 (aC x.1 1),.int .u64 (aC x.1 2),.int .u64 (aC x.1 3),.bool x.2] 76))):=bz9;have N6:Hid (BoxN (w5.alloc (.cells #[.int .u64 (aC x.1 0),.int .u64 (aC x.1 1),.int .u64 (aC x.1 2),.int .u64 (aC x.1 3),.bool x.2] 76)) w.heap.size t.f):=(A5.out.block _ (aB N5.out)).trans N5.out;have R5:Hid ((w5.alloc (.cells #[.int .u64 (aC x.1 0),.int .u64 (aC x.1 1),.int .u64 (aC x.1 2),.int .u64 (aC x.1 3),.bool x.2] 76)).heap[w.heap.size+1]?=some (.cells #[.int .u64 0,.int .u64 0,.int .u64 0,.int .u64 0,.bool false] 76 (0,0))):=(A5.out.block _ (aB ((B5.out.block _ (aB BR.out)).trans BR.out))).trans ((B5.out.block _ (aB BR.out)).trans BR.out);have k0:(w5.alloc (.cells #[.int .u64 (aC x.1 0),.int .u64 (aC x.1 1),.int .u64 (aC x.1 2),.int .u64 (aC x.1 3),.bool x.2] 76)).cell? ⟨w.heap.size,0,none⟩=some (.int .i64 t.f.k):=N6.out.six.1;have k1:(w5.alloc (.cells #[.int .u64 (aC x.1 0),.int .u64 (aC x.1 1),.int .u64 (aC x.1 2),.int .u64 (aC x.1 3),.bool x.2] 76)).cell? ⟨w.heap.size,1,none⟩=some (.int .i64 t.f.n):=N6.out.six.2.1;have p0:(w5.alloc (.cells #[.int .u64 (aC x.1 0),.int .u64 (aC x.1 1),.int .u64 (aC x.1 2),.int .u64 (aC x.1 3),.bool x.2] 76)).cell? ⟨bp,0,none⟩=some (.map (some bb)):=aA (((HTW.out.ck CW.out).ck (CK.of_below B5.out)).ck (CK.of_below A5.out)).p (i:=0) rfl;have z0:=aA R5.out (i:=0) rfl;have z1:=aA R5.out (i:=1) rfl;have z2:=aA R5.out (i:=2) rfl;have z3:=aA R5.out (i:=3) rfl;have z4:=aA R5.out (i:=4) rfl;have fz:=fun z=>aG R5.out z)
     refine aI0 (b:=w.heap.size+1) (x:=x) (bA R5.out [.int .u64 (aC x.1 0),.int .u64 (aC x.1 1),.int .u64 (aC x.1 2),.int .u64 (aC x.1 3),.bool x.2] rfl) rfl rfl ?_
     have F7:=aV (w.heap.size+1) [.int .u64 (aC x.1 0),.int .u64 (aC x.1 1),.int .u64 (aC x.1 2),.int .u64 (aC x.1 3),.bool x.2] 0 (w5.alloc (.cells #[.int .u64 (aC x.1 0),.int .u64 (aC x.1 1),.int .u64 (aC x.1 2),.int .u64 (aC x.1 3),.bool x.2] 76))
     refine⟨by rw [HX.out],?_,?_⟩
     ·rw [HS.out]
      have M6:=((XM.out.kept B5.out).kept ((Below.refl _ _).alloc lz9 (.cells #[.int .u64 (aC x.1 0),.int .u64 (aC x.1 1),.int .u64 (aC x.1 2),.int .u64 (aC x.1 3),.bool x.2] 76)))
      exact(M6.fr F7 (fun e=>by
       obtain⟨es,cl,hb⟩:=M6.block
       rw [e,R5.out] at hb
       cases hb)).mono (by have:=hkz.out;omega)
     ·exact lY ((FW.out.then B5.out).then (bz9)) F7 (by omega)
end
end Go.Proofs.YtjafnbjipgediaaGreatDoor
