/-
  Parts of the proof.
-/
import Derived.Test.YticfnglebbakkaaGreatDoorApartProofB16
import Derived.Test.YticfnglebbakkaaGreatDoorApartProofB18
import Derived.Laws.BitsAllLaws
import Derived.Test.YticfnglebbakkaaGreatDoorApartProofB14
import Derived.Test.YticfnglebbakkaaGreatDoorApartProofB19
import Derived.Test.YticfnglebbakkaaGreatDoorApartProofB17
import Derived.Test.YticfnglebbakkaaGreatDoorApartProofB10
set_option maxRecDepth 100000
set_option maxHeartbeats 8000000
namespace Go.Proofs.YticfnglebbakkaaGreatDoor
open Go Go.RowKit
def xL:ByteArray:=⟨#[48,49,50,51,52,53,54,55,56,57,97,98,99,100,101,102]⟩
def eR(n:Nat):UInt8:=xL.get! n
def sF(b:UInt8):List UInt8:=[92,120,eR (b.toNat / 16),eR (b.toNat % 16)]
def cQ(l:List UInt8):List UInt8:=l.flatMap sF
theorem qJ(a b:List UInt8):cQ (a ++ b)=cQ a ++ cQ b:=by simp [cQ]
theorem lJ(l:List UInt8):(cQ l).length=4 * l.length:=by
 induction l with
 | nil=>rfl
 | cons a t ih=>simp only [cQ,List.flatMap_cons,List.length_append,List.length_cons] at ih ⊢;rw [ih];simp [sF];omega
theorem qE{n:Nat}(h:n < 16):xL[n]'h=eR n:=by
 unfold eR
 rw [ByteArray.get!,getElem!_pos xL.data n h];rfl
theorem oR(u:ByteArray)(cap k:Nat)(h:k < u.size):(bytesRow u cap)[k]?=some (.int .u8 ((u.data.toList[k]'(by rw [aS];exact h)).toNat:Int)):=by
 have:=bytesRow_at u cap k (by rw [<- ByteArray.size];exact h)
 simpa using this
theorem aJ3(W:World)(a b c d:Value)(t:TypeId):∀ (j:Nat) (u:Value),[a,b,c,d][j]?=some u->(W.alloc (.cells #[a,b,c,d] t)).cell? ((⟨W.heap.size,0,none⟩:Addr).add j)=some u:=by
 intro j u h
 match j,h with
 | 0,h=>simp at h;subst h;simp [Addr.add]
 | 1,h=>simp at h;subst h;simp [Addr.add]
 | 2,h=>simp at h;subst h;simp [Addr.add]
 | 3,h=>simp at h;subst h;simp [Addr.add]
def ow(v:Value)(z:Nat):Prop:=v.ownBlock=some z
theorem aA4{w wr w6:World}{v t:Value}(F:Fr (ow v) w wr)(M:moved v t w.heap.size)(K:Fr (ow t) wr w6):Fr (ow v) w w6:=
 ⟨K.os.trans F.os,K.tape.trans F.tape,K.output.trans F.output,Nat.le_trans F.size K.size,fun i hi hs=>(K.block i (Nat.lt_of_lt_of_le hi F.size) (fun q=>hs (wX M hi q))).trans (F.block i hi hs)⟩
theorem uU{v v':Value}{n m:Nat}(h:v'.ownBlock=v.ownBlock\/v'.ownBlock=some m)(hm:n<=m):moved v v' n:=by
 rcases h with h | h
 ·exact .inl h
 ·exact .inr (.inr ⟨m,hm,h⟩)
theorem jN{base:Nat}{w:World}{v:Value}{a:List UInt8}(u:ByteArray)(h:OB base w v a)(hu:u.size<=4)(ha:a.length<=70368744177664)(hbase:base<=w.heap.size) :
  Calls Tryz.prog 127 #[v,.string u] w fun e w'=>∃ v',e=.returned v'/\OB base w' v' (a ++ cQ u.data.toList)/\Fr (ow v) w w'/\moved v v' w.heap.size:=by
 obtain⟨t0,hi,hz0,hz1,hz2⟩:=aV iN
 have H:Hid (OB base w v a):=h
 have hcv:=run_bytes_of_string (P:=Tryz.prog) w 9 52 5 u Tryz.underlying9 Tryz.underlying52 Tryz.underlying5
 obtain⟨cap,hcap⟩:∃ cap,grownCap w u.size 0 5=cap:=⟨_,rfl⟩
 rw [hcap] at hcv
 obtain⟨o8,ho8⟩:∃ o,Obj.cells (bytesRow u cap) 5 ((bytesRow u cap).size,(bytesRow u cap).size+1)=o:=⟨_,rfl⟩
 rw [ho8] at hcv
 have HO:Hid (Obj.cells (bytesRow u cap) 5 ((bytesRow u cap).size,(bytesRow u cap).size+1)=o8):=ho8
 clear hcap ho8 h
 obtain⟨q,c,rfl⟩:=aI H.out
 go_enter Tryz.func127,Tryz.ntmps127
 go_wp2
 go_loopw [0,10] (fun t i wr=>∃ k:Nat,k<=u.size/\i=.int .i64 (k:Int)/\OB base wr t (a ++ cQ (u.data.toList.take k))/\Fr (ow (Value.slice q a.length c)) w wr/\moved (.slice q a.length c) t w.heap.size/\t.ownBlock≠some w.heap.size/\wr.heap[w.heap.size]?=some o8) (fun _ i _=>u.size - (intOf i).toNat)
 case atStart=>
  refine⟨0,Nat.zero_le _,rfl,by have:=World.ownsRow.drew (World.ownsRow.alloc H.out o8);simpa [cQ] using this,((Fr.refl _ w).alloc _).drew,moved.refl _ _,fun e=>?_,aE w o8⟩
  have:=(aH H.out e).2.1
  omega
 case round=>
  obtain⟨k,hk,rfl,hO,hF,hM,hN,hG⟩:=hrel
  obtain⟨qr,cr,rfl⟩:=aI hO
  have O:Hid _:=hO
  have F:Hid _:=hF
  have M:Hid _:=hM
  have N:Hid _:=hN
  have G:Hid _:=hG
  have hlen:(a ++ cQ (u.data.toList.take k)).length=a.length+4 * k:=by
   rw [List.length_append,lJ,List.length_take,aS];omega
  have hsz:=hF.size
  have hgs:=aA hG
  clear hO hF hM hN hG
  rw [hlen] at O N M ⊢
  by_cases hlt:k < u.size
  ·obtain⟨b,hb⟩:∃ b,u.data.toList[k]'(by rw [aS];exact hlt)=b:=⟨_,rfl⟩
   have hcell:wr.cell? ⟨w.heap.size,k,none⟩=some (.int .u8 (b.toNat:Int)):=by
    have:=oR u cap k hlt
    rw [hb] at this
    have e:=G.out
    rw [<- HO.out] at e
    simp [World.cell?,e,this]
   have htk:Hid (u.data.toList.take (k+1)=u.data.toList.take k ++ [b]):=by
    show u.data.toList.take (k+1)=u.data.toList.take k ++ [b]
    rw [<- hb]
    exact bY _ k (by rw [aS];exact hlt)
   clear hb
   have i0:(0:Int)<=(k:Int):=by omega
   have i1:(k:Int) < (u.size:Int):=by omega
   have hwr:IntKind.wrap .i64 ((k:Int)+1)=(k:Int)+1:=wrap_small _ (by omega) (by omega)
   have hbl:b.toNat < 256:=b.toNat_lt
   obtain⟨x,hx⟩:∃ x,b.toNat / 16=x:=⟨_,rfl⟩
   obtain⟨y,hy⟩:∃ y,b.toNat % 16=y:=⟨_,rfl⟩
   have hxl:x < 16:=by omega
   have hyl:y < 16:=by omega
   have e16:(b.toNat:Int) / 16=(x:Int):=by omega
   have eand:bits .and .u8 (b.toNat:Int) 15=(y:Int):=by
    have:=u8_and_nat b.toNat 15 hbl (by omega)
    rw [Nat.and_two_pow_sub_one_eq_mod b.toNat 4] at this
    simpa [hy] using this
   have edx:(⟨#[48,49,50,51,52,53,54,55,56,57,97,98,99,100,101,102]⟩:ByteArray)[x]'(hxl)=eR x:=qE hxl
   have edy:(⟨#[48,49,50,51,52,53,54,55,56,57,97,98,99,100,101,102]⟩:ByteArray)[y]'(hyl)=eR y:=qE hyl
   have HE:Hid (sF b=[92,120,eR x,eR y]):=by
    show sF b=[92,120,eR x,eR y]
    rw [sF,hx,hy]
   clear hx hy
   obtain⟨dx,hdx⟩:∃ d,eR x=d:=⟨_,rfl⟩
   obtain⟨dy,hdy⟩:∃ d,eR y=d:=⟨_,rfl⟩
   rw [hdx] at edx HE
   rw [hdy] at edy HE
   clear hdx hdy
   have x0:(0:Int)<=(x:Int):=by omega
   have x1:(x:Int) < 16:=by omega
   have y0:(0:Int)<=(y:Int):=by omega
   have y1:(y:Int) < 16:=by omega
   go_wp2
   go_region_law (refine fV rfl _ _ 52 rfl base 5 t0 (.int .u8 0) 1 1 gK hi hz0 hz1 hz2 rfl (by decide) (.slice qr (a.length+4 * k) cr) (a.length+4 * k) _ (by simp [Act.eval]) (World.ownsRow.drew (World.ownsRow.alloc O.out _)) ⟨wr.heap.size,0,none⟩ 4 4 [.int .u8 92,.int .u8 120,.int .u8 (dx.toNat:Int),.int .u8 (dy.toNat:Int)] (by simp [Act.eval]) rfl (aJ3 _ _ _ _ _ _) (by simp [Value.oneCell']) (by unfold maxLen;omega) (by omega) (by simp;omega) ?_;intro v' w6 hown' hgrow hblk;have F6:Hid (Fr (ow (.slice qr (a.length+4 * k) cr)) wr w6):=(((Fr.refl _ wr).alloc _).drew).grown hgrow (fun z hz=>hz);have M6:Hid (moved (.slice qr (a.length+4 * k) cr) v' wr.heap.size):=uU hblk (by simp);have O6:Hid _:=hown';have N6:Hid (v'.ownBlock≠some w.heap.size):=(by show v'.ownBlock≠some w.heap.size;rcases hblk with z | z;rw [z];exact N.out;rw [z];intro z2;simp at z2;omega);clear hown' hgrow hblk)
   all_goals go_wp2
   all_goals
    refine⟨⟨k+1,by omega,by go_num,?_,aA4 F.out M.out F6.out,moved.trans M.out M6.out hsz,N6.out,(F6.out.block _ hgs N.out).trans G.out⟩,by simp [intOf];omega⟩
    have:=O6.out
    have e:(a ++ cQ (u.data.toList.take (k+1))).length=a.length+4 * k+4:=by rw [htk.out,qJ,<- List.append_assoc,List.length_append,hlen];rfl
    show World.ownsRow _ _ _ _ _ (a ++ cQ (u.data.toList.take (k+1))).length _
    rw [e,htk.out,qJ,<- List.append_assoc,Lib.byteCells_append (a ++ _)]
    have e2:cQ [b]=[92,120,dx,dy]:=by rw [<- HE.out];simp [cQ]
    rw [e2]
    exact this
  ·obtain rfl:k=u.size:=by omega
   have i1:¬ ((u.size:Nat):Int) < (u.size:Int):=by omega
   have O1:=O.out
   rw [List.take_of_length_le (by rw [aS];exact Nat.le_refl _)] at O1
   have O2:Hid _:=O1
   clear O1
   go_wp2
   go_ret
   refine⟨_,rfl,?_,F.out,M.out⟩
   have e:(a ++ cQ u.data.toList).length=a.length+4 * u.size:=by rw [List.length_append,lJ,aS]
   show World.ownsRow _ _ _ _ _ (a ++ cQ u.data.toList).length _
   rw [e]
   exact O2.out
def bU(c:Int):Bool:=decide ((32<=c/\c<=126)\/159 < c)
def shU(s:ByteArray)(p:Nat):List UInt8:=
 if ch s p=92 then [92,92] else if ch s p=10 then [92,110] else if bU (ch s p) then sl s p (wd s p) else cQ (sl s p (wd s p))
def cZ(s:ByteArray)(l:List (Nat × Int)):List UInt8:=l.flatMap fun u=>shU s u.1
def dR(s:ByteArray):List UInt8:=cZ s (us s)
theorem pC(s:ByteArray)(l:List (Nat × Int))(p:Nat)(c:Int):cZ s (l ++ [(p,c)])=cZ s l ++ shU s p:=by simp [cZ]
theorem aF0(s:ByteArray)(p n:Nat):(sl s p n).length<=n:=by simp [sl];omega
theorem tB(s:ByteArray)(p:Nat):(shU s p).length<=4 * wd s p:=by
 have:=nO s p
 have:=aF0 s p (wd s p)
 unfold shU
 split
 ·simp;omega
 split
 ·simp;omega
 split
 ·omega
 ·rw [lJ];omega
theorem xR(s:ByteArray)(p n:Nat):(s.extract p (p+n)).data.toList=sl s p n:=by
 rw [ByteArray.data_extract,Array.toList_extract,List.extract_eq_take_drop]
 unfold sl
 congr 1
 omega
theorem uZ(c:Int)(w:World):Calls Tryz.prog 123 #[.int .i32 c] w fun e w'=>e=.returned (.bool (bU c))/\w'=w:=by
 by_cases h0:32<=c
 ·by_cases h1:c<=126
  ·have hc:Hid (bU c=true):=by show bU c=true;simp [bU];omega
   go_enter Tryz.func123,Tryz.ntmps123
   go_wp2
   go_ret
   exact⟨by rw [hc.out];rfl,rfl⟩
  ·by_cases h2:159 < c
   ·have hc:Hid (bU c=true):=by show bU c=true;simp [bU];omega
    go_enter Tryz.func123,Tryz.ntmps123
    go_wp2
    go_ret
    exact⟨by rw [hc.out];rfl,rfl⟩
   ·have hc:Hid (bU c=false):=by show bU c=false;simp [bU];omega
    go_enter Tryz.func123,Tryz.ntmps123
    go_wp2
    go_ret
    exact⟨by rw [hc.out];rfl,rfl⟩
 ·have h2:¬ 159 < c:=by omega
  have hc:Hid (bU c=false):=by show bU c=false;simp [bU];omega
  go_enter Tryz.func123,Tryz.ntmps123
  go_wp2
  go_ret
  exact⟨by rw [hc.out];rfl,rfl⟩
theorem Tabs.below{n:Nat}{w w':World}(h:Tabs w)(hb:Below n w w')(hn:3 < n):Tabs w':=h.to (hb.block 2 (by omega)) (hb.block 3 hn)
theorem RI5.fr{s:ByteArray}{w wr w6:World}{k pos n m:Nat}{e:TypeId}{v v':Value}{L M:List Value}(h:RI5 s w k pos e v n L wr)(hown:w6.ownsRow w.heap.size e 1 v' m M)(hf:Fr (ow v) wr w6):RI5 s w k pos e v' m M w6:=by
 refine⟨h.lo,?_,hown,dQ h.bel hf lz9 (fun z hz=>(aH h.own hz).1)⟩
 rw [hf.block k (aA h.it) (fun q=>?_)]
 ·exact h.it
 ·obtain⟨_,_,cur,hc⟩:=aH h.own q
  rw [h.it] at hc;cases hc
theorem RI5.then{s:ByteArray}{w wr w6:World}{k pos n:Nat}{e:TypeId}{v:Value}{L:List Value}(h:RI5 s w k pos e v n L wr)(hb:Below wr.heap.size wr w6):RI5 s w k pos e v n L w6:=
 ⟨h.lo,(hb.block k (aA h.it)).trans h.it,bJ h.own (Fr.of_below (S:=fun _=>False) hb) (fun _ _ q=>q),aF h.bel hb lz9⟩
theorem yX(s:ByteArray)(w:World)(hT:Tabs w)(hs:s.size<=1099511627776) :
  Calls Tryz.prog 85 #[.string s] w fun e w'=>e=.returned (.string (txt (dR s)))/\Below w.heap.size w w':=by
 obtain⟨t0,hi,hz0,hz1,hz2⟩:=aV iN
 have HT:Hid (Tabs w):=hT
 have hT2:=hT.blocks.2
 clear hT
 go_enter Tryz.func85,Tryz.ntmps85
 go_wp2
 go_loopw [3] (fun t wr=>∃ (pos f:Nat) (acc:List (Nat × Int)),RI5 s w w.heap.size pos 5 t (cZ s acc).length (Lib.byteCells (cZ s acc)) wr/\acc ++ cM s f pos=us s/\s.size<=pos+f/\(cZ s acc).length<=4 * pos) (fun _ wr=>s.size - wr.iterPos w.heap.size)
 case atStart=>exact⟨0,s.size,[],⟨Nat.le_refl _,World.iter_heap w s 0,World.ownsRow_nil _ _ _ _,(Below.refl _ w).alloc lz9 _⟩,rfl,by omega,by simp [cZ]⟩
 case round=>
  obtain⟨pos,f,acc,hR,hacc,hfu,hap⟩:=hrel
  obtain⟨L,hL⟩:∃ L,cZ s acc=L:=⟨_,rfl⟩
  rw [hL] at hR hap
  have HL:Hid (cZ s acc=L):=hL
  clear hL
  obtain⟨q,c,rfl⟩:=aI hR.own
  have R:Hid (RI5 s w w.heap.size pos 5 (.slice q L.length c) L.length (Lib.byteCells L) wr):=hR
  have A:Hid (acc ++ cM s f pos=us s):=hacc
  have hit:=hR.it
  have hsz:=hR.len
  clear hR hacc
  by_cases hp:pos < s.size
  ·obtain⟨W2,hW2⟩:∃ W2,wr.iterAt w.heap.size s (pos+wd s pos)=W2:=⟨_,rfl⟩
   have hnx:∀ ty,(Instr.next (.pointer (some ⟨w.heap.size,0,none⟩)) true ty).run Tryz.prog wr=.ok (.tuple #[.bool true,.int .i64 (pos:Int),.int .i32 ((Utf8.decode s pos).1:Int)]) W2:=fun ty=>by rw [<- hW2];exact Lib.run_next_any_at wr w.heap.size s pos ty hit hp
   have R2:Hid (RI5 s w w.heap.size (pos+wd s pos) 5 (.slice q L.length c) L.length (Lib.byteCells L) W2):=by rw [<- hW2];exact R.out.next (pos+wd s pos)
   clear hW2
   obtain⟨f,rfl⟩:∃ g,f=g+1:=⟨f - 1,by omega⟩
   have A2:=A.out
   rw [fE s f pos hp] at A2
   have A3:Hid (acc ++ ((pos,ch s pos) :: cM s f (pos+wd s pos))=us s):=A2
   have hw:=nO s pos
   have hwd:=(mL s pos hp).2
   have hw4:=(mL s pos hp).1
   have I:Hid (wr.heap[w.heap.size]?=some (.stringIter s pos)):=hit
   have hc:=qV s pos
   have hdl:=yC s pos
   have hT2':Hid (Tabs W2):=HT.out.below R2.out.bel hT2
   have hnx2:=zO s pos W2 hT2'.out hp (by unfold maxLen;omega)
   have HES:Hid (bad s pos=false->Lib.encodeRune ((Utf8.decode s pos).1:Int)=sl s pos (wd s pos)):=aH7 s pos hp
   have HCG:Hid (bad s pos=false->ch s pos=(Utf8.decode s pos).1):=oQ
   have HCB:Hid (bad s pos=true->ch s pos=-1/\(Utf8.decode s pos).1=65533):=fun h=>⟨(sM h).1,(sM h).2.2⟩
   have hlen5:=tB s pos
   clear A2 hit
   have hsz2:=R2.out.len
   obtain⟨r,hr⟩:∃ r,(Utf8.decode s pos).1=r:=⟨_,rfl⟩
   rw [hr] at hnx hc hdl HES HCG HCB
   clear hr
   obtain⟨wp,hwp⟩:∃ x,wd s pos=x:=⟨_,rfl⟩
   rw [hwp] at hnx2 A3 R2 hw hwd hw4 hlen5 HES
   have N3:Hid (Calls Tryz.prog 126 #[.string s,.int .i64 (pos:Int)] W2 fun e w'=>e=.returned (.tuple #[.int .i64 (ch s pos),.int .i64 (wp:Int)])/\Below W2.heap.size W2 w'):=hnx2
   have HW:Hid (wd s pos=wp):=hwp
   clear hnx2 hwp
   -- what each way must leave
   have fin:Hid (∀ (w6:World) (v6:Value),RI5 s w w.heap.size (pos+wp) 5 v6 (L.length+(shU s pos).length) (Lib.byteCells (L ++ shU s pos)) w6 ->
     ∃ (pos' f':Nat) (acc':List (Nat × Int)),RI5 s w w.heap.size pos' 5 v6 (cZ s acc').length (Lib.byteCells (cZ s acc')) w6/\acc' ++ cM s f' pos'=us s/\s.size<=pos'+f'/\(cZ s acc').length<=4 * pos'):=fun w6 v6 h=>by
    refine⟨pos+wp,f,acc ++ [(pos,ch s pos)],?_,by rw [<- A3.out];simp,by omega,?_⟩
    ·rw [pC,HL.out,List.length_append];exact h
    ·rw [pC,HL.out,List.length_append];omega
   by_cases h92:r=92
   ·subst h92
    have hch:Hid (shU s pos=[92,92]):=by
     show shU s pos=[92,92]
     have hb:bad s pos=false:=by
      rcases hb:bad s pos with _ | _
      ·rfl
      ·have:=(HCB.out hb).2;omega
     have:ch s pos=92:=HCG.out hb
     unfold shU
     rw [if_pos this]
    go_wp2_with (at_builtin;refine wpList_append_own_at _ rfl _ _ 52 rfl w.heap.size 5 t0 (.int .u8 0) 1 1 gK hi hz0 hz1 hz2 rfl (by decide) (.slice q L.length c) L.length (Lib.byteCells L) rfl (World.ownsRow.alloc R2.out.own (.cells #[.int .u8 92,.int .u8 92] 5)) ⟨W2.heap.size,0,none⟩ 2 2 [.int .u8 92,.int .u8 92] rfl rfl (mY _ _ _ _) (by simp [Value.oneCell']) (by unfold maxLen;omega) (by omega) (by simp;omega) ?_;intro v' w6 hown' hgrow _ hblk;obtain⟨g6,cap6,rfl⟩:=aY hown' (Nat.succ_pos _);have R6:Hid (RI5 s w w.heap.size (pos+wp) 5 (.slice (some ⟨g6,0,none⟩) (L.length+2) cap6) (L.length+2) (Lib.byteCells L ++ [.int .u8 92,.int .u8 92]) w6):=R2.out.app hown' hgrow;clear hown' hgrow hblk)
    go_roundw
    case rel=>
     refine fin.out _ _ ?_
     rw [hch.out,Lib.byteCells_append]
     exact R6.out
    case measure=>
     simp only [World.iterPos,R6.out.it,I.out]
     omega
   have b92:((r:Int)==92)=false:=by simp;omega
   by_cases h10:r=10
   ·subst h10
    have hch:Hid (shU s pos=[92,110]):=by
     show shU s pos=[92,110]
     have hb:bad s pos=false:=by
      rcases hb:bad s pos with _ | _
      ·rfl
      ·have:=(HCB.out hb).2;omega
     have:ch s pos=10:=HCG.out hb
     unfold shU
     rw [if_neg (by rw [this];decide),if_pos this]
    go_wp2_with (at_builtin;refine wpList_append_own_at _ rfl _ _ 52 rfl w.heap.size 5 t0 (.int .u8 0) 1 1 gK hi hz0 hz1 hz2 rfl (by decide) (.slice q L.length c) L.length (Lib.byteCells L) rfl (World.ownsRow.alloc R2.out.own (.cells #[.int .u8 92,.int .u8 110] 5)) ⟨W2.heap.size,0,none⟩ 2 2 [.int .u8 92,.int .u8 110] rfl rfl (mY _ _ _ _) (by simp [Value.oneCell']) (by unfold maxLen;omega) (by omega) (by simp;omega) ?_;intro v' w6 hown' hgrow _ hblk;obtain⟨g6,cap6,rfl⟩:=aY hown' (Nat.succ_pos _);have R6:Hid (RI5 s w w.heap.size (pos+wp) 5 (.slice (some ⟨g6,0,none⟩) (L.length+2) cap6) (L.length+2) (Lib.byteCells L ++ [.int .u8 92,.int .u8 110]) w6):=R2.out.app hown' hgrow;clear hown' hgrow hblk)
    go_roundw
    case rel=>
     refine fin.out _ _ ?_
     rw [hch.out,Lib.byteCells_append]
     exact R6.out
    case measure=>
     simp only [World.iterPos,R6.out.it,I.out]
     omega
   have b10:((r:Int)==10)=false:=by simp;omega
   have hpl:=uZ (r:Int)
   have h0:(0:Int)<=(pos:Int):=by omega
   have h1:((pos+wp:Nat):Int)=(pos:Int)+(wp:Int):=by omega
   have hwr:IntKind.wrap .i64 ((pos:Int)+(wp:Int))=(pos:Int)+(wp:Int):=wrap_small _ (by omega) (by omega)
   have hle1:(pos:Int)<=(pos:Int)+(wp:Int):=by omega
   have hle2:(pos:Int)+(wp:Int)<=(s.size:Int):=by omega
   have htn:((pos:Int)+(wp:Int)).toNat=pos+wp:=by omega
   rcases hpb:bU (r:Int) with _ | _
   ·-- no character that is told as it is
    rw [hpb] at hpl
    have hch:Hid (shU s pos=cQ (sl s pos wp)):=by
     show shU s pos=cQ (sl s pos wp)
     have hne:ch s pos≠92/\ch s pos≠10/\bU (ch s pos)=false:=by
      rcases hb:bad s pos with _ | _
      ·rw [HCG.out hb];exact⟨by omega,by omega,hpb⟩
      ·have:=(HCB.out hb).2
       subst this
       simp [bU] at hpb
     unfold shU
     rw [if_neg hne.1,if_neg hne.2.1,hne.2.2,HW.out];rfl
    go_wp2_with first
     |(go_at_call 123;(with_reducible refine(hpl _).mono ?_);rintro e w5 ⟨rfl,h5⟩;subst w5)
     |(go_at_call 126;(with_reducible refine(Calls.mono N3.out ?_));rintro e w5 ⟨rfl,h5⟩;have R5:Hid (RI5 s w w.heap.size (pos+wp) 5 (.slice q L.length c) L.length (Lib.byteCells L) w5):=R2.out.then h5;have z5:=R5.out.len;clear h5)
     |(go_at_call 127;(refine(jN (a:=L) (s.extract pos (pos+wp)) R5.out.own (by rw [ByteArray.size_extract];omega) (by omega) z5).mono ?_);rw [xR];rintro e w6 ⟨v6,rfl,o6,f6,m6⟩;have R6:Hid (RI5 s w w.heap.size (pos+wp) 5 v6 (L ++ cQ (sl s pos wp)).length (Lib.byteCells (L ++ cQ (sl s pos wp))) w6):=R5.out.fr o6 f6;clear o6 f6 m6)
    go_roundw
    case rel=>
     refine fin.out _ _ ?_
     rw [hch.out,<- List.length_append]
     exact R6.out
    case measure=>
     simp only [World.iterPos,R6.out.it,I.out]
     omega
   ·rw [hpb] at hpl
    rcases hb:bad s pos with _ | _
    ·rw [hb] at hc
     have hch:Hid (shU s pos=Lib.encodeRune (r:Int)):=by
      show shU s pos=Lib.encodeRune (r:Int)
      rw [HES.out hb]
      have e:=HCG.out hb
      unfold shU
      rw [if_neg (by rw [e];omega),if_neg (by rw [e];omega),e,hpb,HW.out];rfl
     go_wp2_with first
      |(go_at_call 123;(with_reducible refine(hpl _).mono ?_);rintro e w5 ⟨rfl,h5⟩;subst w5)
      |(go_at_call 124;(with_reducible refine(hc _ hp).mono ?_);rintro e w5 ⟨rfl,h5⟩;subst w5)
      |(go_at_call 125;(refine(Tryz.utf8_AppendRune_plain w.heap.size _ L.length _ (r:Int) (by omega) (by omega) _ R2.out.own (by omega) hsz2).mono ?_);rintro e w6 ⟨v6,rfl,hown6,ob,hg6⟩;have R6:Hid (RI5 s w w.heap.size (pos+wp) 5 v6 (L.length+(Lib.runeCells (r:Int)).length) (Lib.byteCells L ++ Lib.runeCells (r:Int)) w6):=R2.out.app hown6 hg6;clear hown6 hg6)
     go_roundw
     case rel=>
      refine fin.out _ _ ?_
      rw [hch.out,Lib.byteCells_append,Lib.byteCells_encodeRune,<- Lib.runeCells_length]
      exact R6.out
     case measure=>
      simp only [World.iterPos,R6.out.it,I.out]
      omega
    ·rw [hb] at hc
     have hch:Hid (shU s pos=cQ (sl s pos wp)):=by
      show shU s pos=cQ (sl s pos wp)
      have e:=(HCB.out hb).1
      unfold shU
      rw [if_neg (by rw [e];decide),if_neg (by rw [e];decide),e,HW.out];rfl
     go_wp2_with first
      |(go_at_call 123;(with_reducible refine(hpl _).mono ?_);rintro e w5 ⟨rfl,h5⟩;subst w5)
      |(go_at_call 124;(with_reducible refine(hc _ hp).mono ?_);rintro e w5 ⟨rfl,h5⟩;subst w5)
      |(go_at_call 126;(with_reducible refine(Calls.mono N3.out ?_));rintro e w5 ⟨rfl,h5⟩;have R5:Hid (RI5 s w w.heap.size (pos+wp) 5 (.slice q L.length c) L.length (Lib.byteCells L) w5):=R2.out.then h5;have z5:=R5.out.len;clear h5)
      |(go_at_call 127;(refine(jN (a:=L) (s.extract pos (pos+wp)) R5.out.own (by rw [ByteArray.size_extract];omega) (by omega) z5).mono ?_);rw [xR];rintro e w6 ⟨v6,rfl,o6,f6,m6⟩;have R6:Hid (RI5 s w w.heap.size (pos+wp) 5 v6 (L ++ cQ (sl s pos wp)).length (Lib.byteCells (L ++ cQ (sl s pos wp))) w6):=R5.out.fr o6 f6;clear o6 f6 m6)
     go_roundw
     case rel=>
      refine fin.out _ _ ?_
      rw [hch.out,<- List.length_append]
      exact R6.out
     case measure=>
      simp only [World.iterPos,R6.out.it,I.out]
      omega
  ·have hnx:∀ ty,(Instr.next (.pointer (some ⟨w.heap.size,0,none⟩)) true ty).run Tryz.prog wr=_:=fun ty=>Lib.run_next_end_at wr w.heap.size s pos ty hit hp
   have A2:=A.out
   rw [eU s f pos hp,List.append_nil] at A2
   have A3:Hid (dR s=L):=by show dR s=L;rw [dR,<- A2,HL.out]
   have hcv:=qQ R.out.own
   clear hit A2
   go_wp2
   go_ret
   rw [A3.out]
   exact⟨rfl,R.out.bel⟩
theorem yS{w:World}(hG:Glb w){a b:Int}(hb:eT a b=true):Calls Tryz.prog 55 #[.int .i64 a,.int .i64 b] w fun e w'=>e=.returned (.string (txt (cA a b)))/\Below w.heap.size w w':=by
 have hbd:0<=a/\a<=255/\(b=-1\/(a<=b/\b<=255)):=by
  simp only [eT,Bool.and_eq_true,Bool.or_eq_true,decide_eq_true_eq,beq_iff_eq] at hb
  omega
 clear hb
 by_cases c1:a=0/\b=-1
 ·obtain⟨rfl,rfl⟩:=c1
  go_enter Tryz.func55,Tryz.ntmps55
  go_wp2
  go_ret
  exact⟨rfl,Below.refl _ _⟩
 by_cases c2:a=1/\b=-1
 ·obtain⟨rfl,rfl⟩:=c2
  go_enter Tryz.func55,Tryz.ntmps55
  go_wp2
  go_ret
  exact⟨rfl,Below.refl _ _⟩
 by_cases c3:a=0/\b=1
 ·obtain⟨rfl,rfl⟩:=c3
  go_enter Tryz.func55,Tryz.ntmps55
  go_wp2
  go_ret
  exact⟨rfl,Below.refl _ _⟩
 have E:Hid (cA a b=[92,123] ++ aN a.toNat ++ (if b=a then [] else if b=-1 then [44] else 44 :: aN b.toNat) ++ [92,125]):=by
  show cA a b=_
  unfold cA
  rw [if_neg c1,if_neg c2,if_neg c3]
 have HA:=aB (fun W (hW:Below w.heap.size w W)=>iD (hG.kept hW).2.2 (n:=a) hbd.1 hbd.2.1)
 have l3:=eL hbd.1 hbd.2.1
 obtain⟨D,hD⟩:∃ D,aN a.toNat=D:=⟨_,rfl⟩
 rw [hD] at HA E l3
 clear hD
 have hB:Hid (∀ W,Below w.heap.size w W->b≠-1->Calls Tryz.prog 54 #[.int .i64 b] W fun e w'=>e=.returned (.string (txt (aN b.toNat)))/\Below W.heap.size W w'):=fun W hW q=>iD (hG.kept hW).2.2 (n:=b) (by omega) (by omega)
 have l4:b≠-1->(aN b.toNat).length<=3:=fun q=>eL (by omega) (by omega)
 obtain⟨D2,hD2⟩:∃ D,aN b.toNat=D:=⟨_,rfl⟩
 rw [hD2] at hB E l4
 clear hD2 hG
 have hz:=aU D
 have hz2:=aU D2
 have A1:=dJ
 have t44:(⟨#[44]⟩:ByteArray)=txt [44]:=rfl
 have t1:(⟨#[92,123]⟩:ByteArray)=txt [92,123]:=rfl
 have t2:(⟨#[92,125]⟩:ByteArray)=txt [92,125]:=rfl
 obtain⟨x0,e0⟩:∃ x,(a==0)=x:=⟨_,rfl⟩
 obtain⟨x1,e1⟩:∃ x,(a==1)=x:=⟨_,rfl⟩
 obtain⟨y0,e2⟩:∃ x,(b==-1)=x:=⟨_,rfl⟩
 obtain⟨y1,e3⟩:∃ x,(b==1)=x:=⟨_,rfl⟩
 obtain⟨z,e4⟩:∃ x,(b==a)=x:=⟨_,rfl⟩
 have F:Hid (cA a b=[92,123] ++ D ++ (if z then [] else if y0 then [44] else 44 :: D2) ++ [92,125]):=by
  show cA a b=_
  rw [E.out,<- e4,<- e2]
  simp only [beq_iff_eq]
 have K:Hid ((x0 && y0)=false/\(x1 && y0)=false/\(x0 && y1)=false/\(x0 && x1)=false/\(y0 && y1)=false/\(y0 && z)=false/\(y0=false->b≠-1)):=by
  refine aB ?_
  rw [<- e0,<- e1,<- e2,<- e3,<- e4]
  simp only [Bool.and_eq_false_iff,beq_eq_false_iff_ne]
  omega
 have K1:=K.out
 clear E c1 c2 c3 hbd
 cases x0 <;> cases x1 <;> cases y0 <;> cases y1 <;> cases z <;> simp at K1
 all_goals
  have NB:=aB (K.out.2.2.2.2.2.2)
  have l5:D2.length<=3\/true=true:=.inr rfl
  first |(have l6:=l4 (NB.out (by trivial));clear l5) | skip
  clear K K1 A1
  go_enter Tryz.func55,Tryz.ntmps55
  go_wp2_with first
   |(go_at_call 54;(with_reducible refine(HA.out _ (Below.refl _ _)).mono ?_);rintro e w2 ⟨rfl,h2⟩;have B2:=aB h2;clear h2)
   |(go_at_call 54;refine(hB.out _ B2.out (NB.out (by trivial))).mono ?_;rintro e w3 ⟨rfl,h3⟩;have B3:=aB (aF B2.out h3 lz9);clear h3)
  all_goals first |(exfalso;rename_i hh;simp only [aU,List.length_cons,List.length_nil] at hh;omega) | skip
  go_ret
  refine⟨?_,?_⟩
  ·rw [F.out]
   simp only [dJ]
   simp
  ·first | exact B3.out | exact B2.out
section
open Go
theorem RTr.split{c f:Bool}{gr:Nat}{A B:List El}(h:RTr c f gr (A ++ B)):RTr c f gr A/\RTr c f (gr+aL A) B:=
 ⟨fun pre x post e=>h pre x (post ++ B) (by rw [e];simp),fun pre x post e=>by
  have:=h (A ++ pre) x post (by rw [e];simp)
  rwa [cX,<- Nat.add_assoc] at this⟩
theorem RTr.head{c f:Bool}{gr:Nat}{x:El}{B:List El}(h:RTr c f gr (x :: B)):LKr c f x gr:=by
 have:=h [] x B rfl
 simpa [aL] using this
def Ev(gr:Nat)(e:List Nat)(wy:Way):Prop:=∀ n:Nat,1<=n->n<=gr->fT wy (n:Int)=false->n∈e
theorem Ev.down{gr:Nat}{e:List Nat}{wy:Way}{t:Tr}(i:Nat)(h:Ev gr e wy):Ev gr e ((t,i) :: wy):=fun n h1 h2 h3=>by
 rw [cK] at h3
 simp only [Bool.or_eq_false_iff] at h3
 exact h n h1 h2 h3.2
theorem Ev.up{gr:Nat}{e:List Nat}{wy:Way}{t:Tr}{i:Nat}(h:Ev gr e ((t,i) :: wy))(hk:t.f.k≠7):Ev gr e wy:=fun n h1 h2 h3=>h n h1 h2 (by rw [cK,h3];simp [hk])
theorem Ev.turn{gr:Nat}{e:List Nat}{wy:Way}{t:Tr}{i:Nat}(j:Nat)(h:Ev gr e ((t,i) :: wy)):Ev gr e ((t,j) :: wy):=fun n h1 h2 h3=>h n h1 h2 (by rw [cK] at h3 ⊢;exact h3)
def PsP(c f:Bool)(t:Tr):Prop:=∀ (wy:Way) (gr:Nat) (o e:List Nat),RTr c f gr (pp wy t)->Ev gr e wy ->
 ∃ x,te x=er t/\wf x/\(∀ s∈pfl x,fS c f s)/\∃ e',Ev (gr+aL (pp wy t)) e' wy/\∀ rest,hk (gr+aL (pp wy t)) o e' rest->hk gr o e (pfl x ++ rest)
theorem rR{c f:Bool}{par:Tr}{wy:Way}:∀ (ks:List Tr) (i gr:Nat) (o e:List Nat),(∀ u∈ks,PsP c f u)->RTr c f gr (pps par wy i ks)->Ev gr e ((par,i) :: wy) ->
  ∃ l:List Ps,l.map te=ks.map er/\wfs l/\(∀ y∈l,∀ s∈pfl y,fS c f s)/\(∀ j y,l[j]?=some y->bO ((par,i+j) :: wy) y.kd=true) /\
   ∃ e',Ev (gr+aL (pps par wy i ks)) e' ((par,i) :: wy)/\∀ rest,hk (gr+aL (pps par wy i ks)) o e' rest->hk gr o e (cY l ++ rest)/\hk gr o e (dB l ++ rest)
 | [],i,gr,o,e,_,_,hE=>by
  refine⟨[],rfl,by rw [wfs];trivial,fun y hy=>(by cases hy),fun j y hy=>(by simp at hy),e,by rw [aQ];simpa [aL] using hE,fun rest hr=>?_⟩
  rw [aQ] at hr
  rw [cY,dB]
  exact⟨by simpa [aL] using hr,by simpa [aL] using hr⟩
 | u :: ks,i,gr,o,e,ih,hR,hE=>by
  rw [aT] at hR ⊢
  obtain⟨r1,r2⟩:=hR.split
  obtain⟨x,x1,x2,x3,e1,x4,x5⟩:=ih u (List.mem_cons_self ..) _ gr o e r1 hE
  obtain⟨l,l1,l2,l3,l4,e2,l5,l6⟩:=rR ks (i+1) _ o e1 (fun v hv=>ih v (List.mem_cons_of_mem _ hv)) r2 (x4.turn _)
  rw [cX,<- Nat.add_assoc]
  refine⟨x :: l,by rw [List.map_cons,List.map_cons,x1,l1],by rw [wfs];exact⟨x2,l2⟩,fun y hy=>?_,fun j y hy=>?_,e2,l5.turn _,fun rest hr=>?_⟩
  ·rcases List.mem_cons.1 hy with rfl | hy
   ·exact x3
   ·exact l3 y hy
  ·cases j with
   | zero=>
    simp at hy
    subst hy
    rw [cN] at r1
    have:=(r1.head).1
    rw [<- aE5,x1,aH6]
    exact this
   | succ j=>
    have:=l4 j y (by simpa using hy)
    rwa [show i+1+j=i+(j+1) by omega] at this
  ·obtain⟨q1,q2⟩:=l6 rest hr
   refine⟨?_,?_⟩
   ·rw [cY,List.append_assoc];exact x5 _ q1
   ·rw [dB,List.cons_append,tQ,List.append_assoc];exact x5 _ q2
theorem aG5{y:Ps}(hw:wf y)(h1:y.kd≠1)(h5:y.kd≠5)(h6:y.kd≠6):dN y=true:=by
 cases y with
 | row l=>simp only [Ps.kd] at h1 h5;split at h1 <;> simp_all
 | alt l=>simp [Ps.kd] at h6
 | _=>rfl
theorem vX{y:Ps}(hw:wf y)(h:bG y.kd=true):eM y=true:=by
 cases y with
 | lf k n rs=>simp only [Ps.kd,bG,eM,Bool.or_eq_true,beq_iff_eq] at h ⊢;rw [wf] at hw;omega
 | row l=>simp only [Ps.kd,bG] at h;split at h <;> simp at h
 | alt l=>simp [Ps.kd,bG] at h
 | _=>rfl
theorem aJ1(c f:Bool)(t:Tr):PsP c f t:=by
 refine Tr.ind (P:=PsP c f) (fun t ih=>?_) t
 intro wy gr o e hR hE
 rw [cN] at hR ⊢
 obtain⟨l1,l2,l3,l4,l5⟩:=hR.head
 simp only at l1 l2 l3 l4 l5
 have hR2:RTr c f (gr+aL [(wy,t)]) (pps t wy 0 t.ks):=(RTr.split (A:=[(wy,t)]) hR).2
 have hkind:bX t.f.k=true:=by
  match wy,l1 with
  | [],l1=>exact l1
  |(par,i) :: _,l1=>exact rJ l1
 simp only [bX,Bool.and_eq_true,decide_eq_true_eq] at hkind
 have hgm:aL ((wy,t) :: pps t wy 0 t.ks)=(if t.f.k=7 then 1 else 0)+aL (pps t wy 0 t.ks):=rfl
 have hg1:aL [(wy,t)]=if t.f.k=7 then 1 else 0:=by simp [aL]
 have leaf:∀ (x:Ps),t.ks=[]->te x=er t->wf x->(∀ s∈pfl x,fS c f s)->t.f.k≠7->(∀ rest,hk gr o e rest->hk gr o e (pfl x ++ rest)) ->
   ∃ x,te x=er t/\wf x/\(∀ s∈pfl x,fS c f s)/\∃ e',Ev (gr+aL ((wy,t) :: pps t wy 0 t.ks)) e' wy/\∀ rest,hk (gr+aL ((wy,t) :: pps t wy 0 t.ks)) o e' rest->hk gr o e (pfl x ++ rest):=fun x hk h1 h2 h3 h7 h4=>by
  have:aL ((wy,t) :: pps t wy 0 t.ks)=0:=by rw [hgm,hk,aQ,if_neg h7];rfl
  rw [this,Nat.add_zero]
  exact⟨x,h1,h2,h3,e,hE,h4⟩
 have nil_of:∀ {l:List (Int × Int)},l.length=0->l=[]:=fun h=>List.eq_nil_of_length_eq_zero h
 have kids0:t.f.k≠5->t.f.k≠6->t.f.k≠7->t.f.k≠9->t.ks=[]:=fun a b d g=>by
  unfold eF at l3
  rw [if_neg (by omega),if_neg (by omega)] at l3
  exact List.eq_nil_of_length_eq_zero (by simpa using l3)
 unfold aG at l2
 obtain⟨K,hK⟩:∃ K,t.f.k=K:=⟨_,rfl⟩
 have hcase:K=1\/K=2\/K=3\/K=4\/K=5\/K=6\/K=7\/K=8\/K=9:=by omega
 have hert:=lK t
 rw [hK] at hert l2
 rcases hcase with rfl | rfl | rfl | rfl | rfl | rfl | rfl | rfl | rfl
 ·-- empty
  rw [if_neg (by decide),if_neg (by decide),if_neg (by decide),if_neg (by decide)] at l2
  have hks:=kids0 (by omega) (by omega) (by omega) (by omega)
  refine leaf (.row []) hks ?_ ?_ (fun s hs=>by rw [pfl,cY] at hs;cases hs) (by omega) (fun rest hr=>by rw [pfl,cY];exact hr)
  ·rw [hert,l2.1,l2.2.1,l2.2.2.1,nil_of l2.2.2.2,hks];rfl
  ·rw [wf];exact⟨by simp,fun i y hy=>by simp at hy,by rw [wfs];trivial⟩
 ·-- a set
  rw [if_pos rfl] at l2
  have hks:=kids0 (by omega) (by omega) (by omega) (by omega)
  refine leaf (.lf 2 0 t.f.rs) hks ?_ (by rw [wf];omega) (fun s hs=>?_) (by omega) (fun rest hr=>by rw [pfl];exact⟨fun q=>absurd q (by decide),hr⟩)
  ·rw [hert,l2.2.1,l2.2.2.1,l2.2.2.2,hks];rfl
  ·rw [pfl,List.mem_singleton] at hs
   subst hs
   exact⟨fun _=>⟨l2.1,rfl⟩,fun q=>absurd rfl q,fun q=>absurd q (by decide),fun _=>rfl⟩
 ·-- a beginning
  rw [if_neg (by decide),if_neg (by decide),if_neg (by decide),if_neg (by decide)] at l2
  have hks:=kids0 (by omega) (by omega) (by omega) (by omega)
  refine leaf (.lf 3 0 []) hks ?_ (by rw [wf];omega) (fun s hs=>?_) (by omega) (fun rest hr=>by rw [pfl];exact⟨fun q=>absurd q (by decide),hr⟩)
  ·rw [hert,l2.1,l2.2.1,l2.2.2.1,nil_of l2.2.2.2,hks];rfl
  ·rw [pfl,List.mem_singleton] at hs
   subst hs
   exact⟨fun q=>absurd q (by decide),fun _=>rfl,fun q=>absurd q (by decide),fun _=>rfl⟩
 ·-- an end
  rw [if_neg (by decide),if_neg (by decide),if_neg (by decide),if_neg (by decide)] at l2
  have hks:=kids0 (by omega) (by omega) (by omega) (by omega)
  refine leaf (.lf 4 0 []) hks ?_ (by rw [wf];omega) (fun s hs=>?_) (by omega) (fun rest hr=>by rw [pfl];exact⟨fun q=>absurd q (by decide),hr⟩)
  ·rw [hert,l2.1,l2.2.1,l2.2.2.1,nil_of l2.2.2.2,hks];rfl
  ·rw [pfl,List.mem_singleton] at hs
   subst hs
   exact⟨fun q=>absurd q (by decide),fun _=>rfl,fun q=>absurd q (by decide),fun _=>rfl⟩
 ·-- one behind the other
  rw [if_neg (by decide),if_neg (by decide),if_neg (by decide),if_neg (by decide)] at l2
  rw [hg1,hK,if_neg (by decide),Nat.add_zero] at hR2
  obtain⟨l,m1,m2,m3,m4,e',m5,m6⟩:=rR t.ks 0 gr o e (fun u hu=>ih u hu) hR2 (hE.down 0)
  have hlen:l.length=t.ks.length:=by rw [<- List.length_map te,m1,List.length_map]
  have h2:2<=t.ks.length:=by unfold eF at l3;rw [if_pos (by omega)] at l3;simpa using l3
  rw [hgm,hK,if_neg (by decide),Nat.zero_add]
  refine⟨.row l,?_,?_,fun s hs=>?_,e',m5.up (by omega),fun rest hr=>?_⟩
  ·have:l.isEmpty=false:=by cases l with
    | nil=>simp at hlen;omega
    | cons y l=>rfl
   rw [te,this,hert,l2.1,l2.2.1,l2.2.2.1,nil_of l2.2.2.2,gM,m1];rfl
  ·rw [wf]
   refine⟨by omega,fun i y hy=>?_,m2⟩
   have hs:=m4 i y hy
   have hwy:=(iL l).1 m2 y (List.mem_of_getElem? hy)
   simp only [bO,bT] at hs
   rw [hK,if_pos rfl] at hs
   simp only [Bool.or_eq_true,Bool.and_eq_true,beq_iff_eq,bG] at hs
   refine⟨aG5 hwy (by omega) (by omega) (by omega),fun q=>by omega,fun q=>by omega⟩
  ·rw [pfl] at hs
   have:∀ (l:List Ps),(∀ y∈l,∀ s∈pfl y,fS c f s)->∀ s∈cY l,fS c f s:=by
    intro l
    induction l with
    | nil=>intro _ s hs;rw [cY] at hs;cases hs
    | cons y l ih2=>
     intro h s hs
     rw [cY] at hs
     rcases List.mem_append.1 hs with q | q
     ·exact h y (List.mem_cons_self ..) s q
     ·exact ih2 (fun z hz=>h z (List.mem_cons_of_mem _ hz)) s q
   exact this l m3 s hs
  ·rw [pfl];exact(m6 rest hr).1
 ·-- one of some
  rw [if_neg (by decide),if_neg (by decide),if_neg (by decide),if_neg (by decide)] at l2
  rw [hg1,hK,if_neg (by decide),Nat.add_zero] at hR2
  obtain⟨l,m1,m2,m3,m4,e',m5,m6⟩:=rR t.ks 0 gr o e (fun u hu=>ih u hu) hR2 (hE.down 0)
  have hlen:l.length=t.ks.length:=by rw [<- List.length_map te,m1,List.length_map]
  have h2:2<=t.ks.length:=by unfold eF at l3;rw [if_pos (by omega)] at l3;simpa using l3
  rw [hgm,hK,if_neg (by decide),Nat.zero_add]
  have hfl:∀ rest,dB l ++ rest=.al :: (mD l ++ rest):=fun rest=>by
   cases l with
   | nil=>simp at hlen;omega
   | cons y l=>rw [dB,mD];simp
  refine⟨.alt l,?_,?_,fun s hs=>?_,e',m5.up (by omega),fun rest hr=>?_⟩
  ·rw [te,hert,l2.1,l2.2.1,l2.2.2.1,nil_of l2.2.2.2,gM,m1]
  ·rw [wf]
   refine⟨by omega,fun y hy=>?_,m2⟩
   obtain⟨i,hi,e⟩:=List.getElem_of_mem hy
   have hs:=m4 i y (by rw [List.getElem?_eq_getElem hi,e])
   simp only [bO,bT] at hs
   rw [hK,if_neg (by decide),if_neg (by decide),if_pos rfl] at hs
   simp only [Bool.and_eq_true,bne_iff_ne] at hs
   cases y with
   | alt=>simp [Ps.kd] at hs
   | _=>rfl
  ·rw [pfl] at hs
   have:∀ (l:List Ps),(∀ y∈l,∀ s∈pfl y,fS c f s)->∀ s∈dB l,fS c f s:=by
    intro l
    induction l with
    | nil=>intro _ s hs;rw [dB] at hs;cases hs
    | cons y l ih2=>
     intro h s hs
     rw [dB] at hs
     rcases List.mem_cons.1 hs with rfl | hs
     ·trivial
     rcases List.mem_append.1 hs with q | q
     ·exact h y (List.mem_cons_self ..) s q
     ·exact ih2 (fun z hz=>h z (List.mem_cons_of_mem _ hz)) s q
   refine this l m3 s ?_
   have:=hfl []
   rw [List.append_nil,List.append_nil] at this
   rw [this]
   exact List.mem_cons_of_mem _ hs
  ·have:=(m6 rest hr).2
   rw [hfl,tQ] at this
   rw [pfl]
   exact this
 ·-- a group
  rw [if_neg (by decide),if_pos rfl] at l2
  rw [hg1,hK,if_pos rfl] at hR2
  obtain⟨u,hu⟩:∃ u,t.ks=[u]:=by
   unfold eF at l3
   rw [hK,if_neg (by decide),if_pos (by decide)] at l3
   match t.ks,l3 with
   | [u],_=>exact⟨u,rfl⟩
  have h30:=l4 hK
  rw [hu,aT,aQ,List.append_nil] at hR2
  have hE2:Ev (gr+1) e ((t,0) :: wy):=fun n h1 h2 h3=>by
   rw [cK,l2.1,hK] at h3
   simp only [Bool.or_eq_false_iff,beq_self_eq_true,Bool.true_and,beq_eq_false_iff_ne] at h3
   exact hE n h1 (by omega) h3.2
  obtain⟨x,x1,x2,x3,e',x4,x5⟩:=ih u (by rw [hu];simp) ((t,0) :: wy) (gr+1) ((gr+1) :: o) e hR2 hE2
  rw [hgm,hK,if_pos rfl,hu,aT,aQ,List.append_nil,<- Nat.add_assoc]
  refine⟨.grp (gr+1) x,?_,by rw [wf];exact x2,fun s hs=>?_,(gr+1) :: e',fun n h1 h2 h3=>?_,fun rest hr=>?_⟩
  ·rw [te,hert,l2.1,l2.2.1,l2.2.2.1,nil_of l2.2.2.2,hu,x1];rfl
  ·rw [pfl] at hs
   rcases List.mem_cons.1 hs with rfl | hs
   ·trivial
   rcases List.mem_append.1 hs with q | q
   ·exact x3 s q
   ·rw [List.mem_singleton] at q;subst q;trivial
  ·by_cases hn:n=gr+1
   ·rw [hn];exact List.mem_cons_self ..
   ·refine List.mem_cons_of_mem _ (x4 n h1 h2 ?_)
    rw [cK,h3,l2.1]
    have:(((gr:Int)+1)==(n:Int))=false:=by rw [beq_eq_false_iff_ne];omega
    rw [this];simp
  ·rw [pfl,List.cons_append,List.append_assoc]
   refine⟨rfl,by omega,x5 _ ?_⟩
   exact⟨gr+1,o,rfl,hr⟩
 ·-- a backreference
  rw [if_neg (by decide),if_neg (by decide),if_pos rfl] at l2
  have hks:=kids0 (by omega) (by omega) (by omega) (by omega)
  obtain⟨b1,b2⟩:=l5 hK
  refine leaf (.lf 8 t.f.n []) hks ?_ (by rw [wf];omega) (fun s hs=>?_) (by omega) (fun rest hr=>by
   rw [pfl]
   refine⟨fun _=>⟨t.f.n.toNat,hE _ (by omega) (by omega) ?_,by omega⟩,hr⟩
   rw [show ((t.f.n.toNat:Nat):Int)=t.f.n by omega];exact b1)
  ·rw [hert,l2.2.1,l2.2.2.1,nil_of l2.2.2.2,hks];rfl
  ·rw [pfl,List.mem_singleton] at hs
   subst hs
   exact⟨fun q=>absurd q (by decide),fun _=>rfl,fun _=>l2.1,fun q=>absurd rfl q⟩
 ·-- how often
  rw [if_neg (by decide),if_neg (by decide),if_neg (by decide),if_pos rfl] at l2
  rw [hg1,hK,if_neg (by decide),Nat.add_zero] at hR2
  obtain⟨u,hu⟩:∃ u,t.ks=[u]:=by
   unfold eF at l3
   rw [hK,if_neg (by decide),if_pos (by decide)] at l3
   match t.ks,l3 with
   | [u],_=>exact⟨u,rfl⟩
  rw [hu,aT,aQ,List.append_nil] at hR2
  obtain⟨x,x1,x2,x3,e',x4,x5⟩:=ih u (by rw [hu];simp) ((t,0) :: wy) gr o e hR2 (hE.down 0)
  have hth:eM x=true:=by
   rw [cN] at hR2
   have:=(hR2.head).1
   simp only [bO,bT] at this
   rw [hK,if_neg (by decide),if_pos rfl] at this
   refine vX x2 ?_
   rw [<- aE5,x1,aH6]
   exact this
  rw [hgm,hK,if_neg (by decide),Nat.zero_add,hu,aT,aQ,List.append_nil]
  refine⟨.rep t.f.mn t.f.mx x,?_,by rw [wf];exact⟨hth,x2⟩,fun s hs=>?_,e',x4.up (by omega),fun rest hr=>?_⟩
  ·rw [te,hert,l2.2.1,nil_of l2.2.2,hu,x1];rfl
  ·rw [pfl] at hs
   rcases List.mem_append.1 hs with q | q
   ·exact x3 s q
   ·rw [List.mem_singleton] at q;subst q;exact l2.1
  ·rw [pfl,List.append_assoc]
   exact x5 _ hr
theorem wH{c f:Bool}{t:Tr}(h:aM c f 0 0 (pp [] t)=0):∃ x,te x=er t/\wf x/\(∀ s∈pfl x,fS c f s)/\hk 0 [] [] (pfl x)/\x.dp<=40/\x.sz<=2000:=by
 have hall:=dW _ 0 0 h
 have hR:RTr c f 0 (pp [] t):=by
  intro pre x post e
  have:=hall pre x post e
  unfold dD at this
  split at this
  ·cases this
  split at this
  ·cases this
  split at this
  ·cases this
  rename_i h1
  split at this
  ·cases this
  rename_i h2
  split at this
  ·cases this
  rename_i h3
  have h1':=Classical.not_not.1 h1
  refine⟨h1'.1,h1'.2.1,h1'.2.2,fun q=>?_,fun q=>?_⟩
  ·have:¬ 30 < x.2.f.n:=fun z=>h2 ⟨q,z⟩
   omega
  ·exact Classical.not_not.1 fun z=>h3 ⟨q,z⟩
 obtain⟨x,x1,x2,x3,e',-,x5⟩:=aJ1 c f t [] 0 [] [] hR (fun n h1 h2=>by omega)
 have hk0:=x5 [] rfl
 rw [List.append_nil] at hk0
 have hd:=tW x t [] x1.symm
 have hdm:dE (pp [] t)<=40:=by
  have:∀ (L:List El),(∀ x∈L,x.1.length+1<=40)->dE L<=40:=by
   intro L
   induction L with
   | nil=>intro _;exact Nat.zero_le _
   | cons x L ih2=>intro hL;simp only [dE];have:=hL x (List.mem_cons_self ..);have:=ih2 (fun y hy=>hL y (List.mem_cons_of_mem _ hy));omega
  refine this _ fun y hy=>?_
  obtain⟨pre,post,e⟩:=List.append_of_mem hy
  have:=hall pre y post e
  unfold dD at this
  split at this
  ·cases this
  split at this
  ·cases this
  omega
 refine⟨x,x1,x2,x3,hk0,?_,?_⟩
 ·rw [hd] at hdm;simpa using hdm
 ·rw [<- aD2,x1,aD6,<- rU t []];exact eY h
mutual
def prE(c:Bool):Er->List UInt8
 | .mk k n mn mx rs ks=>if k=2 then bF c rs else if k=3 then [94] else if k=4 then [36] else if k=5 then bR c [] ks else if k=6 then bR c [92,124] ks
  else if k=7 then [92,40] ++ bR c [] ks ++ [92,41] else if k=8 then 92 :: aN n.toNat else if k=9 then bR c [] ks ++ cA mn mx else []
def bR(c:Bool)(sep:List UInt8):List Er->List UInt8
 | []=>[]
 | x :: l=>prE c x ++ dM c sep l
def dM(c:Bool)(sep:List UInt8):List Er->List UInt8
 | []=>[]
 | x :: l=>sep ++ prE c x ++ dM c sep l
end
theorem zK(c:Bool)(n mn mx:Int)(rs:List (Int × Int))(ks:List Er):prE c (.mk 6 n mn mx rs ks)=bR c [92,124] ks:=by rw [prE];simp
theorem aF5(c:Bool)(x:Ps):wf x->prE c (te x)=prS c (pfl x):=by
 refine Ps.ind (P:=fun x=>wf x->prE c (te x)=prS c (pfl x)) (fun x ih hw=>?_) x
 have hrow:∀ l:List Ps,(∀ y∈l,wf y->prE c (te y)=prS c (pfl y))->wfs l->dM c [] (tes l)=prS c (cY l):=by
  intro l
  induction l with
  | nil=>intro _ _;rw [tes,dM,cY];rfl
  | cons y l ih2=>
   intro h hw
   rw [wfs] at hw
   rw [tes,dM,cY,gO,h y (List.mem_cons_self ..) hw.1,ih2 (fun z hz=>h z (List.mem_cons_of_mem _ hz)) hw.2]
   rfl
 have halt:∀ l:List Ps,(∀ y∈l,wf y->prE c (te y)=prS c (pfl y))->wfs l->dM c [92,124] (tes l)=prS c (dB l):=by
  intro l
  induction l with
  | nil=>intro _ _;rw [tes,dM,dB];rfl
  | cons y l ih2=>
   intro h hw
   rw [wfs] at hw
   rw [tes,dM,dB,gA,gO,h y (List.mem_cons_self ..) hw.1,ih2 (fun z hz=>h z (List.mem_cons_of_mem _ hz)) hw.2]
   show _=[92,124] ++ _
   simp
 cases x with
 | lf k n rs=>
  rw [wf] at hw
  rw [te,prE,pfl]
  rcases hw with rfl | rfl | rfl | rfl <;> simp [prS,sgB]
 | grp n k=>
  rw [wf] at hw
  rw [te,prE,pfl,gA,gO,bR,dM,List.append_nil,ih k (by simp [Ps.kids]) hw]
  simp [prS,sgB]
 | rep a b k=>
  rw [wf] at hw
  rw [te,prE,pfl,gO,bR,dM,List.append_nil,ih k (by simp [Ps.kids]) hw.2]
  simp [prS,sgB]
 | row l=>
  rw [wf] at hw
  rw [te,pfl]
  cases l with
  | nil=>
   show prE c (.mk 1 0 0 0 [] [])=_
   rw [prE,cY]
   simp [prS]
  | cons y l=>
   have hws:=hw.2.2
   rw [wfs] at hws
   rw [if_neg (by simp),prE,tes,bR,cY,gO,ih y (by simp [Ps.kids]) hws.1,hrow l (fun z hz=>ih z (by simp [Ps.kids,hz])) hws.2]
   simp
 | alt l=>
  rw [wf] at hw
  rw [te,pfl,zK]
  cases l with
  | nil=>rw [tes,bR,mD];rfl
  | cons y l=>
   have hws:=hw.2.2
   rw [wfs] at hws
   rw [tes,bR,mD,gO,ih y (by simp [Ps.kids]) hws.1,halt l (fun z hz=>ih z (by simp [Ps.kids,hz])) hws.2]
theorem kU{m:Md}{s:ByteArray}{t:Tr}(h:aM m.c m.f 0 0 (pp [] t)=0)(hs:s.data.toList=prE m.c (er t))(hz:s.size<=2000):∃ x T,aK7 m s x T/\te x=er t:=by
 obtain⟨x,x1,x2,x3,x4,x5,x6⟩:=wH h
 rw [<- x1,aF5 m.c x x2] at hs
 obtain⟨T,h1,h2⟩:=xB hs (yN x2) x3 x4 hz
 exact⟨x,T,⟨h1,aA1 (uW h1) (by rw [h2];exact x4),x2,h2.symm,x5,x6⟩,x1⟩
end
def WR(l x l':List UInt8):Prop:=l'=l ++ x\/(2000 < l'.length/\2000 < (l ++ x).length/\l'.length<=(l ++ x).length)
theorem WR.refl(l x:List UInt8):WR l x (l ++ x):=.inl rfl
theorem WR.len{l x l':List UInt8}(h:WR l x l'):l'.length<=l.length+x.length:=by
 rcases h with rfl | ⟨_,_,h⟩
 ·simp
 ·simpa using h
theorem WR.trans{l x y l' l'':List UInt8}(h:WR l x l')(k:WR l' y l''):WR l (x ++ y) l'':=by
 unfold WR at *
 rw [<- List.append_assoc]
 simp only [List.length_append] at *
 rcases h with rfl | ⟨h1,h2,h3⟩
 ·simpa using k
 ·right
  rcases k with rfl | ⟨k1,k2,k3⟩
  ·simp only [List.length_append];omega
  ·omega
theorem WR.long{l:List UInt8}(h:2000 < l.length)(x:List UInt8):WR l x l:=.inr ⟨h,by simp;omega,by simp⟩
theorem WR.none(l:List UInt8):WR l [] l:=.inl (by simp)
abbrev aD3(c f:Bool):List Value:=[.bool c,.bool f]
abbrev PR(base:Nat)(w:World)(b:Nat)(c f:Bool)(l:List UInt8):Prop:=BL 56 base w b (aD3 c f) l
abbrev PrPost(base:Nat)(w:World)(b:Nat)(c f:Bool)(l:List UInt8)(w':World):Prop:=jO 56 base w b (aD3 c f) l w'
theorem PR.cells{base:Nat}{w:World}{b:Nat}{c f:Bool}{l:List UInt8}(h:PR base w b c f l):w.cell? ⟨b,0,none⟩=some (.bool c)/\w.cell? ⟨b,1,none⟩=some (.bool f)/\b < w.heap.size/\base<=b:=by
 obtain⟨p,v,h1,-,-,-,h5⟩:=h
 exact⟨aC h1 (i:=0) rfl,aC h1 (i:=1) rfl,aA h1,h5⟩
theorem BL.kept{T:TypeId}{base:Nat}{w w':World}{b:Nat}{pre:List Value}{l:List UInt8}(h:BL T base w b pre l)(hb:Below w.heap.size w w'):BL T base w' b pre l:=by
 obtain⟨p,v,h1,h2,h3,h4,h5⟩:=h
 exact⟨p,v,(hb.block b (aA h1)).trans h1,h2,bJ h3 (S:=fun _=>False) ⟨hb.os,hb.tape,hb.output,hb.size,fun i hi _=>hb.block i hi⟩ (fun _ _ q=>q),h4,h5⟩
theorem mW{b:Nat}{w w':World}(h:Below w.heap.size w w'):Oth b w w':=fun k _ hk _ _=>(h.block k (aA hk)).trans hk
theorem PrPost.trans{base:Nat}{a w w':World}{b:Nat}{T:TypeId}{pre:List Value}{l l':List UInt8}(h:jO T base a b pre l w)(k:jO T base w b pre l' w'):jO T base a b pre l' w':=⟨k.1,h.2.1.trans k.2.1,h.2.2.trans k.2.2⟩
theorem PrPost.then{base:Nat}{a w w':World}{b:Nat}{T:TypeId}{pre:List Value}{l:List UInt8}(h:jO T base a b pre l w)(k:Below w.heap.size w w')(hb:base<=a.heap.size):jO T base a b pre l w':=⟨h.1.kept k,aF h.2.1 k hb,h.2.2.trans (mW k)⟩
theorem PrPost.start{base:Nat}{w w':World}{b:Nat}{T:TypeId}{pre:List Value}{l:List UInt8}(h:BL T base w b pre l)(k:Below w.heap.size w w')(hb:base<=w.heap.size):jO T base w b pre l w':=⟨h.kept k,k.mono hb,mW k⟩
theorem eO{base:Nat}{w:World}{b:Nat}{c f:Bool}{l:List UInt8}(h:PR base w b c f l)(s:List UInt8)(hl:l.length+s.length<=140737488355328)(hb:base<=w.heap.size) :
  Calls Tryz.prog 51 #[.pointer (some ⟨b,0,none⟩),.string (txt s)] w fun e w'=>e=.returned (.tuple #[])/\PrPost base w b c f (l ++ s) w':=by
 have HW:=aB (eP bt2 h s hl hb)
 clear h hl hb
 go_enter Tryz.func51,Tryz.ntmps51
 go_wp2_with (go_at_call 36;refine(HW.out).mono ?_;rintro e w2 ⟨rfl,h2⟩;have B2:=aB h2;clear h2)
 go_end0
 exact⟨rfl,B2.out⟩
theorem qC{base:Nat}{w:World}{b:Nat}{c f:Bool}{l:List UInt8}(h:PR base w b c f l) :
  Calls Tryz.prog 24 #[.pointer (some ⟨b,0,none⟩)] w fun e w'=>e=.returned (.bool (decide (2000 < l.length)))/\w'=w:=by
 have HW:=aB (zU h)
 clear h
 obtain⟨n,hn⟩:∃ n,l.length=n:=⟨_,rfl⟩
 rw [hn] at HW ⊢
 clear hn
 by_cases q:2000 < n
 ·have q2:(2000:Int) < (n:Int):=by omega
  rw [decide_eq_true q]
  go_enter Tryz.func24,Tryz.ntmps24
  go_wp2_with (go_at_call 56;refine(HW.out).mono ?_;rintro e w2 ⟨rfl,h2⟩;subst w2)
  go_ret
  exact⟨rfl,rfl⟩
 ·have q2:¬ (2000:Int) < (n:Int):=by omega
  rw [decide_eq_false q]
  go_enter Tryz.func24,Tryz.ntmps24
  go_wp2_with (go_at_call 56;refine(HW.out).mono ?_;rintro e w2 ⟨rfl,h2⟩;subst w2)
  go_ret
  refine⟨?_,rfl⟩
  show Ending.returned (Value.bool (decide ((2000:Int) < (n:Int))))=_
  rw [decide_eq_false (by omega)]
structure Okn(c f:Bool)(F:Fl):Prop where
 set:F.k=2->gY c f F.rs
 back:F.k=8->0<=F.n/\F.n<=9
 rep:F.k=9->eT F.mn F.mx=true
 grp:F.k=7->0<=F.n/\F.n<=30
def Okt(c f:Bool)(t:Tr):Prop:=cH (fun u=>Okn c f u.f) t
def WrP(c f:Bool)(t:Tr):Prop:=∀ (W0 w:World) (b:Nat) (l:List UInt8),TB W0 t->Okt c f t->Below W0.heap.size W0 w->Glb W0->PR W0.heap.size w b c f l->l.length+(prE c (er t)).length<=140737488355328 ->
 Calls Tryz.prog 23 #[.pointer (some ⟨b,0,none⟩),.agg #[.int .i64 t.f.k,.int .i64 t.f.n,.int .i64 t.f.mn,.int .i64 t.f.mx,.slice t.f.rq t.f.rs.length t.f.rc,.slice t.f.kq t.f.kl t.f.kc]] w fun e w'=>e=.returned (.tuple #[])/\∃ l',WR l (prE c (er t)) l'/\PrPost W0.heap.size w b c f l' w'
theorem pP(c:Bool)(sep:List UInt8)(L M:List Er):dM c sep (L ++ M)=dM c sep L ++ dM c sep M:=by
 induction L with
 | nil=>rw [List.nil_append];simp [dM]
 | cons y L ih=>rw [List.cons_append,dM,dM,ih];simp
theorem wM(c:Bool)(sep:List UInt8)(x:Er):dM c sep [x]=sep ++ prE c x:=by rw [dM];simp [dM]
theorem uN(c:Bool)(sep:List UInt8)(L:List Er)(x:Er):bR c sep (L ++ [x])=bR c sep L ++ ((if L=[] then [] else sep) ++ prE c x):=by
 cases L with
 | nil=>rw [List.nil_append,bR];simp [bR,dM]
 | cons y L=>rw [List.cons_append,bR,bR,pP,wM];simp
theorem wN(c:Bool)(sep:List UInt8)(A B:List Er):(bR c sep A).length<=(bR c sep (A ++ B)).length:=by
 cases A with
 | nil=>rw [bR];exact Nat.zero_le _
 | cons y L=>rw [List.cons_append,bR,bR,pP];simp only [List.length_append];omega
theorem oU{c f:Bool}{t:Tr}(hrec:∀ u∈t.ks,WrP c f u){W0 w:World}{b:Nat}{l:List UInt8}(sep:List UInt8)(hT:TB W0 t)(hO:Okt c f t)(hb:Below W0.heap.size W0 w)(hG:Glb W0)(h:PR W0.heap.size w b c f l)(hl:l.length+(bR c sep (t.ks.map er)).length<=140737488355328) :
  Calls Tryz.prog 53 #[.pointer (some ⟨b,0,none⟩),.agg #[.int .i64 t.f.k,.int .i64 t.f.n,.int .i64 t.f.mn,.int .i64 t.f.mx,.slice t.f.rq t.f.rs.length t.f.rc,.slice t.f.kq t.f.kl t.f.kc],.string (txt sep)] w fun e w'=>e=.returned (.tuple #[])/\∃ l',WR l (bR c sep (t.ks.map er)) l'/\PrPost W0.heap.size w b c f l' w':=by
 have HR:=aB hrec
 have HT:=aB hT
 have HO:=aB hO
 have HG:=aB hG
 have H:=aB h
 have B0:=aB hb
 have hs0:=hb.size
 have HL:=aB hl
 have kl:=hT.node.kl
 obtain⟨q,cap,e1,hm1,hcp1,hx1⟩:=hT.node.k.slice
 injection e1 with e11 e12 e13
 have H1:=aB hx1
 have HB:=aB h.cells.2.2
 have hm:t.ks.length<=9223372036854775807:=hm1
 rw [e11,kl]
 clear hrec hT hO hG h hx1 e11 e12 e13 hb hl kl
 go_enter Tryz.func53,Tryz.ntmps53
 go_wp2
 go_loopw [11] (fun i wr=>∃ (k:Nat) (l':List UInt8),k<=t.ks.length/\i=.int .i64 (k:Int)/\WR l (bR c sep ((t.ks.take k).map er)) l'/\PrPost W0.heap.size w b c f l' wr) (fun i _=>t.ks.length - (intOf i).toNat)
 case atStart=>exact⟨0,l,Nat.zero_le _,rfl,by rw [List.take_zero,List.map_nil,bR];exact WR.none l,PrPost.start H.out (bz9) hs0⟩
 case round=>
  obtain⟨k,l',hk,rfl,hW,hP⟩:=hrel
  have W1:=aB hW
  have P1:=aB hP
  clear hW hP
  have hsw:=Nat.le_trans hs0 P1.out.2.1.size
  by_cases hlt:k < t.ks.length
  ·obtain⟨u,hu⟩:∃ u,t.ks[k]?=some u:=⟨_,List.getElem?_eq_getElem hlt⟩
   have inu:u∈t.ks:=List.mem_of_getElem? hu
   obtain⟨g,o,rfl,hg,six⟩:=H1.out k u hu
   have BW:Hid (Below W0.heap.size W0 wr):=B0.out.trans P1.out.2.1
   obtain⟨c0,c1,c2,c3,c4,c5⟩:=six.ck (CK.of_below BW.out) hg
   have hgr:g < wr.heap.size:=Nat.lt_of_lt_of_le hg BW.out.size
   have i0:(0:Int)<=(k:Int):=by omega
   have i1:(k:Int) < (t.ks.length:Int):=by omega
   have hwr:IntKind.wrap .i64 ((k:Int)+1)=(k:Int)+1:=wrap_small _ (by omega) (by omega)
   have NX:Hid (bR c sep ((t.ks.take (k+1)).map er)=bR c sep ((t.ks.take k).map er) ++ ((if k=0 then [] else sep) ++ prE c (er u))):=by
    refine aB ?_
    rw [List.take_add_one,hu,List.map_append]
    show bR c sep ((t.ks.take k).map er ++ [er u])=_
    rw [uN]
    congr 2
    have:((t.ks.take k).map er=[]) ↔ k=0:=by
     rw [List.map_eq_nil_iff,List.take_eq_nil_iff]
     constructor
     ·rintro (q | q)
      ·exact q
      ·rw [q] at hlt;simp at hlt
     ·exact fun q=>.inl q
    simp only [this]
   have LN:Hid (l'.length+(if k=0 then [] else sep).length+(prE c (er u)).length<=140737488355328):=by
    refine aB ?_
    have h1:=W1.out.len
    have h2:=wN c sep ((t.ks.take (k+1)).map er) ((t.ks.drop (k+1)).map er)
    rw [<- List.map_append,List.take_append_drop] at h2
    rw [NX.out] at h2
    simp only [List.length_append] at h2
    have:=HL.out
    omega
   have BX:Hid (BoxN (wr.alloc (.cells #[.int .i64 u.f.k,.int .i64 u.f.n,.int .i64 u.f.mn,.int .i64 u.f.mx,.slice u.f.rq u.f.rs.length u.f.rc,.slice u.f.kq u.f.kl u.f.kc] 25)) wr.heap.size u.f):=aE wr _
   have PX:Hid (PrPost W0.heap.size w b c f l' (wr.alloc (.cells #[.int .i64 u.f.k,.int .i64 u.f.n,.int .i64 u.f.mn,.int .i64 u.f.mx,.slice u.f.rq u.f.rs.length u.f.rc,.slice u.f.kq u.f.kl u.f.kc] 25))):=PrPost.then P1.out (bz9) hs0
   obtain⟨n0,n1,n2,n3,n4,n5⟩:=BX.out.six
   simp only [Nat.zero_add] at n1 n2 n3 n4 n5
   have hsx:W0.heap.size<=(wr.alloc (.cells #[.int .i64 u.f.k,.int .i64 u.f.n,.int .i64 u.f.mn,.int .i64 u.f.mx,.slice u.f.rq u.f.rs.length u.f.rc,.slice u.f.kq u.f.kl u.f.kc] 25)).heap.size:=by simp;omega
   have nb:wr.heap.size≠b:=by
    have:=(PR.cells P1.out.1).2.2.1
    omega
   have RC:=aB (fun (W:World) (m:List UInt8) (hp:PrPost W0.heap.size w b c f m W) (hm:m.length+(prE c (er u)).length<=140737488355328)=>HR.out u inu W0 W b m (HT.out.kid inu) (dZ HO.out inu) (B0.out.trans hp.2.1) HG.out hp.1 hm)
   clear six hu
   by_cases hk0:k=0
   ·subst hk0
    simp only [Nat.zero_mul,Nat.add_zero] at c0 c1 c2 c3 c4 c5
    have RC1:=aB (RC.out _ l' PX.out (by have:=LN.out;simp at this;omega))
    go_wp2_with (go_at_call 23;refine(RC1.out).mono ?_;rintro e w5 ⟨rfl,l5,h51,h52⟩;have R5:Hid (WR l (bR c sep ((t.ks.take (0+1)).map er)) l5):=aB (by rw [NX.out];exact W1.out.trans (by simpa using h51));have P5:Hid (PrPost W0.heap.size w b c f l5 w5):=PrPost.trans PX.out h52;clear h51 h52)
    go_roundw
    case rel=>exact⟨0+1,l5,by omega,by go_num,R5.out,P5.out⟩
    case measure=>simp [intOf];omega
   ·have i2:(0:Int) < (k:Int):=by omega
    have AD:=aB (eO PX.out.1 sep (by have:=LN.out;rw [if_neg hk0] at this;omega) hsx)
    go_wp2_with first
     |(go_at_call 51;refine(AD.out).mono ?_;rintro e w4 ⟨rfl,h4⟩;have P4:Hid (PrPost W0.heap.size w b c f (l' ++ sep) w4):=PrPost.trans PX.out h4;have X4:Hid (BoxN w4 wr.heap.size u.f):=h4.2.2 _ _ BX.out (by simp;exact nb) (fun cs fz e=>by cases e);obtain⟨m0,m1,m2,m3,m4,m5⟩:=X4.out.six;simp only [Nat.zero_add] at m1 m2 m3 m4 m5;have RC1:=aB (RC.out _ (l' ++ sep) P4.out (by have:=LN.out;rw [if_neg hk0] at this;rw [List.length_append];omega));clear h4)
     |(go_at_call 23;refine(RC1.out).mono ?_;rintro e w5 ⟨rfl,l5,h51,h52⟩;have R5:Hid (WR l (bR c sep ((t.ks.take (k+1)).map er)) l5):=aB (by rw [NX.out,if_neg hk0];exact W1.out.trans ((WR.refl l' sep).trans h51));have P5:Hid (PrPost W0.heap.size w b c f l5 w5):=PrPost.trans P4.out h52;clear h51 h52)
    go_roundw
    case rel=>exact⟨k+1,l5,by omega,by go_num,R5.out,P5.out⟩
    case measure=>simp [intOf];omega
  ·obtain rfl:k=t.ks.length:=by omega
   have i1:¬ (t.ks.length:Int) < (t.ks.length:Int):=by omega
   go_wp2
   go_end0
   refine⟨rfl,l',?_,P1.out⟩
   have:=W1.out
   rw [List.take_length] at this
   exact this
theorem wO(c:Bool)(t:Tr):prE c (er t)=if t.f.k=2 then bF c t.f.rs else if t.f.k=3 then [94] else if t.f.k=4 then [36] else if t.f.k=5 then bR c [] (t.ks.map er) else if t.f.k=6 then bR c [92,124] (t.ks.map er)
  else if t.f.k=7 then [92,40] ++ bR c [] (t.ks.map er) ++ [92,41] else if t.f.k=8 then 92 :: aN t.f.n.toNat else if t.f.k=9 then bR c [] (t.ks.map er) ++ cA t.f.mn t.f.mx else []:=by
 rw [lK,prE]
theorem yQ(c f:Bool)(t:Tr):WrP c f t:=by
 refine Tr.ind (P:=WrP c f) (fun t ih=>?_) t
 intro W0 w b l hT hO hb hG h hl
 have HR:=aB ih
 have HT:=aB hT
 have HO:=aB hO
 have HN:=aB (((bE t).1 hO).1)
 have HG:=aB hG
 have H:=aB h
 have B0:=aB hb
 have hs0:=hb.size
 have HL:=aB hl
 have LG:=aB (qC (BL.kept h ((Below.refl _ _).alloc lz9 (.cells #[.int .i64 t.f.k,.int .i64 t.f.n,.int .i64 t.f.mn,.int .i64 t.f.mx,.slice t.f.rq t.f.rs.length t.f.rc,.slice t.f.kq t.f.kl t.f.kc] 25))))
 have BX:Hid (BoxN (w.alloc (.cells #[.int .i64 t.f.k,.int .i64 t.f.n,.int .i64 t.f.mn,.int .i64 t.f.mx,.slice t.f.rq t.f.rs.length t.f.rc,.slice t.f.kq t.f.kl t.f.kc] 25)) w.heap.size t.f):=aE w _
 have PX:Hid (PrPost W0.heap.size w b c f l (w.alloc (.cells #[.int .i64 t.f.k,.int .i64 t.f.n,.int .i64 t.f.mn,.int .i64 t.f.mx,.slice t.f.rq t.f.rs.length t.f.rc,.slice t.f.kq t.f.kl t.f.kc] 25))):=PrPost.start h (bz9) hs0
 obtain⟨n0,n1,n2,n3,n4,n5⟩:=BX.out.six
 simp only [Nat.zero_add] at n1 n2 n3 n4 n5
 have nb:w.heap.size≠b:=by have:=(PR.cells h).2.2.1;omega
 have hsx:W0.heap.size<=(w.alloc (.cells #[.int .i64 t.f.k,.int .i64 t.f.n,.int .i64 t.f.mn,.int .i64 t.f.mx,.slice t.f.rq t.f.rs.length t.f.rc,.slice t.f.kq t.f.kl t.f.kc] 25)).heap.size:=by simp;omega
 have BWX:Hid (Below W0.heap.size W0 (w.alloc (.cells #[.int .i64 t.f.k,.int .i64 t.f.n,.int .i64 t.f.mn,.int .i64 t.f.mx,.slice t.f.rq t.f.rs.length t.f.rc,.slice t.f.kq t.f.kl t.f.kc] 25))):=hb.trans ((Below.refl _ _).alloc hs0 _)
 have KD:=aB (fun (W:World) (m sep:List UInt8) (hp:PrPost W0.heap.size w b c f m W) (hm:m.length+(bR c sep (t.ks.map er)).length<=140737488355328)=>oU ih sep hT hO (hb.trans hp.2.1) hG hp.1 hm)
 have PE:=aB (wO c t)
 have bxk:=aB (fun (W:World) (m:List UInt8) (hp:PrPost W0.heap.size (w.alloc (.cells #[.int .i64 t.f.k,.int .i64 t.f.n,.int .i64 t.f.mn,.int .i64 t.f.mx,.slice t.f.rq t.f.rs.length t.f.rc,.slice t.f.kq t.f.kl t.f.kc] 25)) b c f m W)=>(show BoxN W w.heap.size t.f from hp.2.2 _ _ BX.out (by simp;exact nb) (fun cs fz e=>by cases e)))
 clear ih hT hO hG h hb hl
 go_enter Tryz.func23,Tryz.ntmps23
 go_upto_region 1 with fail
 generalize (w.alloc (.cells #[.int .i64 t.f.k,.int .i64 t.f.n,.int .i64 t.f.mn,.int .i64 t.f.mx,.slice t.f.rq t.f.rs.length t.f.rc,.slice t.f.kq t.f.kl t.f.kc] 25))=w1 at LG BX PX n0 n1 n2 n3 n4 n5 hsx BWX bxk ⊢
 by_cases hlong:2000 < l.length
 ·have dl:decide (2000 < l.length)=true:=decide_eq_true hlong
  rw [dl] at LG
  have HLG:=aB hlong
  clear dl hlong
  go_wp2_with (go_at_call 24;refine(LG.out).mono ?_;rintro e w2 ⟨rfl,h2⟩;subst w2)
  refine bodyPost_ret (results_none rfl _ _ _) rfl ?_
  exact⟨rfl,l,WR.long HLG.out _,PX.out⟩
 have dl:decide (2000 < l.length)=false:=decide_eq_false hlong
 rw [dl] at LG
 clear dl hlong
 have D2:=PE.out
 by_cases k2:t.f.k=2
 ·rw [if_pos k2] at D2
  have E:=aB D2
  have SR:=aB ((HN.out.set k2).1)
  have NR:=aB ((HT.out.kept BWX.out).node.r)
  have LN:Hid (l.length+(bF c t.f.rs).length<=140737488355328):=aB (by have:=HL.out;rw [D2] at this;exact this)
  obtain⟨e0,e1,lb,-⟩:=PR.cells PX.out.1
  have lw:=aA BX.out
  clear D2
  have PD:Hid (PrPost W0.heap.size w b c f l w1.drew):=PrPost.then PX.out (Below.drew (Below.refl _ _)) hs0
  have ST:=aB (tE t.f c f (NR.out.kept (Below.drew (Below.refl _ _))) SR.out)
  rw [k2] at ST
  go_upto_region 4 with (go_at_call 24;refine(LG.out).mono ?_;rintro e w2 ⟨rfl,h2⟩;subst w2)
  go_region_with first
   |(go_at_call 52;refine(ST.out).mono ?_;rintro e w3 ⟨rfl,h3⟩;have P3:=aB (PrPost.then PD.out h3 hs0);clear h3)
   |(go_at_call 51;refine(eO P3.out.1 (bF c t.f.rs) LN.out (Nat.le_trans hs0 P3.out.2.1.size)).mono ?_;rintro e w4 ⟨rfl,h4⟩;have P4:=aB (PrPost.trans P3.out h4);clear h4)
  all_goals go_wp2
  all_goals go_end0
  all_goals exact⟨rfl,_,by rw [E.out];exact WR.refl l _,P4.out⟩
 rw [if_neg k2] at D2
 by_cases k3:t.f.k=3
 ·rw [if_pos k3] at D2
  have E:=aB D2
  have LN:=HL.out
  rw [D2] at LN
  have AD:=aB (eO PX.out.1 [94] (by simpa using LN) hsx)
  go_wp2_with first
   |(go_at_call 24;refine(LG.out).mono ?_;rintro e w2 ⟨rfl,h2⟩;subst w2)
   |(go_at_call 51;refine(AD.out).mono ?_;rintro e w3 ⟨rfl,h3⟩;have P3:=aB (PrPost.trans PX.out h3);clear h3)
  go_end0
  exact⟨rfl,_,by rw [E.out];exact WR.refl l [94],P3.out⟩
 rw [if_neg k3] at D2
 by_cases k4:t.f.k=4
 ·rw [if_pos k4] at D2
  have E:=aB D2
  have LN:=HL.out
  rw [D2] at LN
  have AD:=aB (eO PX.out.1 [36] (by simpa using LN) hsx)
  go_wp2_with first
   |(go_at_call 24;refine(LG.out).mono ?_;rintro e w2 ⟨rfl,h2⟩;subst w2)
   |(go_at_call 51;refine(AD.out).mono ?_;rintro e w3 ⟨rfl,h3⟩;have P3:=aB (PrPost.trans PX.out h3);clear h3)
  go_end0
  exact⟨rfl,_,by rw [E.out];exact WR.refl l [36],P3.out⟩
 rw [if_neg k4] at D2
 by_cases k5:t.f.k=5
 ·rw [if_pos k5] at D2
  have E:=aB D2
  have LN:=HL.out
  rw [D2] at LN
  have AD:=aB (KD.out _ l [] PX.out LN)
  rw [k5] at AD
  go_wp2_with first
   |(go_at_call 24;refine(LG.out).mono ?_;rintro e w2 ⟨rfl,h2⟩;subst w2)
   |(go_at_call 53;refine(AD.out).mono ?_;rintro e w3 ⟨rfl,l3,h31,h32⟩;have R3:=aB h31;have P3:=aB (PrPost.trans PX.out h32);clear h31 h32)
  go_end0
  exact⟨rfl,l3,by rw [E.out];exact R3.out,P3.out⟩
 rw [if_neg k5] at D2
 by_cases k6:t.f.k=6
 ·rw [if_pos k6] at D2
  have E:=aB D2
  have LN:=HL.out
  rw [D2] at LN
  have AD:=aB (KD.out _ l [92,124] PX.out LN)
  rw [k6] at AD
  go_wp2_with first
   |(go_at_call 24;refine(LG.out).mono ?_;rintro e w2 ⟨rfl,h2⟩;subst w2)
   |(go_at_call 53;refine(AD.out).mono ?_;rintro e w3 ⟨rfl,l3,h31,h32⟩;have R3:=aB h31;have P3:=aB (PrPost.trans PX.out h32);clear h31 h32)
  go_end0
  exact⟨rfl,l3,by rw [E.out];exact R3.out,P3.out⟩
 rw [if_neg k6] at D2
 by_cases k7:t.f.k=7
 ·rw [if_pos k7] at D2
  have E:=aB D2
  have LN:=HL.out
  rw [D2] at LN
  simp only [List.length_append,List.length_cons,List.length_nil] at LN
  rw [k7] at KD
  have AD:=aB (eO PX.out.1 [92,40] (by simp;omega) hsx)
  go_wp2_with first
   |(go_at_call 24;refine(LG.out).mono ?_;rintro e w2 ⟨rfl,h2⟩;subst w2)
   |(go_at_call 51;refine(eO P4.out.1 [92,41] (by have:=R4.out.len;simp only [List.length_append,List.length_cons,List.length_nil] at this ⊢;omega) (Nat.le_trans hs0 P4.out.2.1.size)).mono ?_;rintro e w5 ⟨rfl,h5⟩;have P5:=aB (PrPost.trans P4.out h5);clear h5)
   |(go_at_call 53;refine(KD.out _ (l ++ [92,40]) [] P3.out (by simp only [List.length_append,List.length_cons,List.length_nil];omega)).mono ?_;rintro e w4 ⟨rfl,l4,h41,h42⟩;have R4:=aB h41;have P4:=aB (PrPost.trans P3.out h42);clear h41 h42)
   |(go_at_call 51;refine(AD.out).mono ?_;rintro e w3 ⟨rfl,h3⟩;have P3:=aB (PrPost.trans PX.out h3);have X3:=aB (bxk.out _ _ h3);obtain⟨m0,m1,m2,m3,m4,m5⟩:=X3.out.six;simp only [Nat.zero_add] at m1 m2 m3 m4 m5;clear h3)
  go_end0
  exact⟨rfl,_,by rw [E.out,List.append_assoc];exact(WR.refl l [92,40]).trans (R4.out.trans (WR.refl l4 [92,41])),P5.out⟩
 rw [if_neg k7] at D2
 by_cases k8:t.f.k=8
 ·rw [if_pos k8] at D2
  have E:=aB D2
  have LN:=HL.out
  rw [D2] at LN
  have hn:=HN.out.back k8
  have IT:=aB (iD (HG.out.kept BWX.out).2.2 (n:=t.f.n) hn.1 (by omega))
  have A1:(⟨#[92]⟩:ByteArray) ++ txt (aN t.f.n.toNat)=txt (92 :: aN t.f.n.toNat):=dJ [92] _
  have l9:=eL hn.1 (show t.f.n<=255 by omega)
  have hz:=aU (aN t.f.n.toNat)
  have hz1:(txt (aN t.f.n.toNat)).size<=3:=by omega
  have LN2:=aB LN
  have NS:=aB l9
  clear D2 LN l9 hz hn
  generalize aN t.f.n.toNat=dg at IT A1 hz1 E LN2 NS
  go_wp2_with first
   |(go_at_call 24;refine(LG.out).mono ?_;rintro e w2 ⟨rfl,h2⟩;subst w2)
   |(go_at_call 51;refine(eO P3.out.1 (92 :: dg) LN2.out (Nat.le_trans hs0 P3.out.2.1.size)).mono ?_;rintro e w4 ⟨rfl,h4⟩;have P4:=aB (PrPost.trans P3.out h4);clear h4)
   |(go_at_call 54;refine(IT.out).mono ?_;rintro e w3 ⟨rfl,h3⟩;have P3:=aB (PrPost.then PX.out h3 hs0);clear h3)
  all_goals first |(exfalso;rename_i hh;simp only [aU] at hh;have:=NS.out;omega) | skip
  go_end0
  exact⟨rfl,_,by rw [E.out];exact WR.refl l (92 :: dg),P4.out⟩
 rw [if_neg k8] at D2
 by_cases k9:t.f.k=9
 ·rw [if_pos k9] at D2
  have E:=aB D2
  have LN:=HL.out
  rw [D2] at LN
  simp only [List.length_append] at LN
  have AD:=aB (KD.out _ l [] PX.out (by omega))
  rw [k9] at AD
  have TB:=aB (HN.out.rep k9)
  go_wp2_with first
   |(go_at_call 24;refine(LG.out).mono ?_;rintro e w2 ⟨rfl,h2⟩;subst w2)
   |(go_at_call 51;refine(eO P4.out.1 (cA t.f.mn t.f.mx) (by have:=R3.out.len;omega) (Nat.le_trans hs0 P4.out.2.1.size)).mono ?_;rintro e w5 ⟨rfl,h5⟩;have P5:=aB (PrPost.trans P4.out h5);clear h5)
   |(go_at_call 55;refine(yS (HG.out.kept (B0.out.trans P3.out.2.1)) TB.out).mono ?_;rintro e w4 ⟨rfl,h4⟩;have P4:=aB (PrPost.then P3.out h4 hs0);clear h4)
   |(go_at_call 53;refine(AD.out).mono ?_;rintro e w3 ⟨rfl,l3,h31,h32⟩;have R3:=aB h31;have P3:=aB (PrPost.trans PX.out h32);have X3:=aB (bxk.out _ _ h32);obtain⟨m0,m1,m2,m3,m4,m5⟩:=X3.out.six;simp only [Nat.zero_add] at m1 m2 m3 m4 m5;clear h31 h32)
  go_end0
  exact⟨rfl,_,by rw [E.out];exact R3.out.trans (WR.refl l3 _),P5.out⟩
 rw [if_neg k9] at D2
 have E:=aB D2
 have q2:(t.f.k==2)=false:=by rw [beq_eq_false_iff_ne];exact k2
 have q3:(t.f.k==3)=false:=by rw [beq_eq_false_iff_ne];exact k3
 have q4:(t.f.k==4)=false:=by rw [beq_eq_false_iff_ne];exact k4
 have q5:(t.f.k==5)=false:=by rw [beq_eq_false_iff_ne];exact k5
 have q6:(t.f.k==6)=false:=by rw [beq_eq_false_iff_ne];exact k6
 have q7:(t.f.k==7)=false:=by rw [beq_eq_false_iff_ne];exact k7
 have q8:(t.f.k==8)=false:=by rw [beq_eq_false_iff_ne];exact k8
 have q9:(t.f.k==9)=false:=by rw [beq_eq_false_iff_ne];exact k9
 clear k2 k3 k4 k5 k6 k7 k8 k9 D2
 go_wp2_with (go_at_call 24;refine(LG.out).mono ?_;rintro e w2 ⟨rfl,h2⟩;subst w2)
 go_end0
 exact⟨rfl,l,by rw [E.out];exact WR.none l,PX.out⟩
theorem xW{P:Tr->Prop}(t:Tr):∀ p,(∀ z∈pp p t,P z.2)->cH P t:=by
 refine Tr.ind (P:=fun t=>∀ p,(∀ z∈pp p t,P z.2)->cH P t) (fun t ih p h=>?_) t
 refine(bE t).2 ⟨h (p,t) (by rw [cN];exact List.mem_cons_self ..),(bP _).2 fun u hu=>?_⟩
 obtain⟨i,hi,e⟩:=List.getElem_of_mem hu
 obtain⟨a,b,hab⟩:=uO (par:=t) (p:=p) (show t.ks[i]?=some u by rw [List.getElem?_eq_getElem hi,e])
 refine ih u hu ((t,i) :: p) fun z hz=>h z ?_
 rw [cN,hab]
 simp [hz]
theorem rY{c f:Bool}{t:Tr}(h:aM c f 0 0 (pp [] t)=0):Okt c f t:=by
 refine xW t [] fun z hz=>?_
 obtain⟨pre,post,e⟩:=List.append_of_mem hz
 have hk:=dW _ 0 0 h pre z post e
 unfold dD at hk
 split at hk
 ·cases hk
 split at hk
 ·cases hk
 split at hk
 ·cases hk
 rename_i h1
 split at hk
 ·cases hk
 rename_i h2
 have h1':=(Classical.not_not.1 h1).2.1
 unfold aG at h1'
 refine⟨fun q=>?_,fun q=>?_,fun q=>?_,fun q=>?_⟩
 ·rw [if_pos q] at h1';exact h1'.1
 ·rw [if_neg (by omega),if_neg (by omega),if_pos q] at h1';omega
 ·rw [if_neg (by omega),if_neg (by omega),if_neg (by omega),if_pos q] at h1';exact h1'.1
 ·rw [if_neg (by omega),if_pos q] at h1'
  have:¬ 30 < z.2.f.n:=fun x=>h2 ⟨q,x⟩
  have:=h1'.1
  omega
theorem rG{a b:Int}(h:eT a b=true):(cA a b).length<=11:=by
 have hbd:0<=a/\a<=255/\(b=-1\/(a<=b/\b<=255)):=by
  simp only [eT,Bool.and_eq_true,Bool.or_eq_true,decide_eq_true_eq,beq_iff_eq] at h
  omega
 have h1:=eL hbd.1 hbd.2.1
 unfold cA
 split
 ·simp
 split
 ·simp
 split
 ·simp
 split
 ·simp;omega
 split
 ·simp;omega
 ·have h2:=eL (n:=b) (by omega) (by omega)
  simp;omega
theorem zJ(c f:Bool)(t:Tr):Okt c f t->(prE c (er t)).length+20<=28000100 * t.sz:=by
 refine Tr.ind (P:=fun t=>Okt c f t->(prE c (er t)).length+20<=28000100 * t.sz) (fun t ih h=>?_) t
 have hn:=((bE t).1 h).1
 have hs:∀ (sep:List UInt8),sep.length<=2->(bR c sep (t.ks.map er)).length<=28000100 * szs t.ks:=by
  intro sep hsep
  have key:∀ (ks:List Tr),(∀ u∈ks,u∈t.ks)->(dM c sep (ks.map er)).length<=28000100 * szs ks:=by
   intro ks
   induction ks with
   | nil=>intro _;simp [dM,szs]
   | cons u ks ih2=>
    intro hm
    have h1:=ih u (hm u (List.mem_cons_self ..)) (dZ h (hm u (List.mem_cons_self ..)))
    have h2:=ih2 (fun v hv=>hm v (List.mem_cons_of_mem _ hv))
    rw [List.map_cons,dM,iM,List.length_append,List.length_append]
    omega
  have:(bR c sep (t.ks.map er)).length<=(dM c sep (t.ks.map er)).length:=by
   cases t.ks with
   | nil=>simp [bR]
   | cons u ks=>rw [List.map_cons,bR,dM];simp only [List.length_append];omega
  exact Nat.le_trans this (key t.ks fun _ q=>q)
 have e0:=hs [] (by simp)
 have e1:=hs [92,124] (by simp)
 rw [wO,oY]
 split
 ·rename_i q
  have:=lQ (hn.set q).1
  omega
 split
 ·simp;omega
 split
 ·simp;omega
 split
 ·omega
 split
 ·omega
 split
 ·simp only [List.length_append,List.length_cons,List.length_nil];omega
 split
 ·rename_i q
  have:=hn.back q
  have:=eL (n:=t.f.n) this.1 (by omega)
  rw [List.length_cons];omega
 split
 ·rename_i q
  have:=rG (hn.rep q)
  rw [List.length_append];omega
 ·simp;omega
noncomputable def fA (c f:Bool) (t:Tr):List UInt8 × Int:=
 if aM c f 0 0 (pp [] t)≠0 then ([],aM c f 0 0 (pp [] t)) else if 2000 < (prE c (er t)).length then ([],30) else (prE c (er t),0)
theorem rS{c f:Bool}{t:Tr}(h:aM c f 0 0 (pp [] t)=0):(prE c (er t)).length<=60000000000:=by
 have h1:=zJ c f t (rY h)
 have h2:t.sz<=2000:=by rw [<- rU t []];exact eY h
 have:28000100 * t.sz<=28000100 * 2000:=Nat.mul_le_mul_left _ h2
 omega
theorem jS{w:World}{t:Tr}(c f:Bool)(hT:TB w t)(hG:Glb w) :
  Calls Tryz.prog 10 #[.agg #[.int .i64 t.f.k,.int .i64 t.f.n,.int .i64 t.f.mn,.int .i64 t.f.mx,.slice t.f.rq t.f.rs.length t.f.rc,.slice t.f.kq t.f.kl t.f.kc],.agg #[.bool c,.bool f]] w fun e w'=>e=.returned (.tuple #[.string (txt (fA c f t).1),.int .i64 (fA c f t).2])/\Below w.heap.size w w':=by
 have HT:=aB hT
 have HG:=aB hG
 have B1:Hid (Below w.heap.size w ((w.alloc (.cells #[.int .i64 t.f.k,.int .i64 t.f.n,.int .i64 t.f.mn,.int .i64 t.f.mx,.slice t.f.rq t.f.rs.length t.f.rc,.slice t.f.kq t.f.kl t.f.kc] 25)).alloc (.cells #[.bool c,.bool f] 27))):=(bz9).alloc (by simp) _
 have X1:Hid (BoxN ((w.alloc (.cells #[.int .i64 t.f.k,.int .i64 t.f.n,.int .i64 t.f.mn,.int .i64 t.f.mx,.slice t.f.rq t.f.rs.length t.f.rc,.slice t.f.kq t.f.kl t.f.kc] 25)).alloc (.cells #[.bool c,.bool f] 27)) w.heap.size t.f):=(Below.heap_alloc _ _ _ (by simp)).trans (aE w _)
 have X2:Hid (((w.alloc (.cells #[.int .i64 t.f.k,.int .i64 t.f.n,.int .i64 t.f.mn,.int .i64 t.f.mx,.slice t.f.rq t.f.rs.length t.f.rc,.slice t.f.kq t.f.kl t.f.kc] 25)).alloc (.cells #[.bool c,.bool f] 27)).heap[w.heap.size+1]?=some (.cells #[.bool c,.bool f] 27 (0,0))):=aB (by have:=aE (w.alloc (.cells #[.int .i64 t.f.k,.int .i64 t.f.n,.int .i64 t.f.mn,.int .i64 t.f.mx,.slice t.f.rq t.f.rs.length t.f.rc,.slice t.f.kq t.f.kl t.f.kc] 25)) (.cells #[.bool c,.bool f] 27);simpa using this)
 obtain⟨out,ho⟩:∃ o,fA c f t=o:=⟨_,rfl⟩
 have HO:=aB ho
 rw [ho]
 clear hT hG ho
 go_enter Tryz.func10,Tryz.ntmps10
 go_upto_region 1 with fail
 generalize ((w.alloc (.cells #[.int .i64 t.f.k,.int .i64 t.f.n,.int .i64 t.f.mn,.int .i64 t.f.mx,.slice t.f.rq t.f.rs.length t.f.rc,.slice t.f.kq t.f.kl t.f.kc] 25)).alloc (.cells #[.bool c,.bool f] 27))=w1 at B1 X1 X2 ⊢
 obtain⟨n0,n1,n2,n3,n4,n5⟩:=X1.out.six
 simp only [Nat.zero_add] at n1 n2 n3 n4 n5
 have a0:=aC X2.out (i:=0) rfl
 have a1:=aC X2.out (i:=1) rfl
 have RT:=aB (pL c f (HT.out.kept B1.out))
 obtain⟨r,hr⟩:∃ r,aM c f 0 0 (pp [] t)=r:=⟨_,rfl⟩
 have HR:=aB hr
 rw [hr] at RT
 clear hr
 by_cases hr0:r=0
 ·subst hr0
  have OK:=aB (rY HR.out)
  have RM:=aB (rS HR.out)
  go_upto_region 4 with (go_at_call 11;refine(RT.out).mono ?_;rintro e w2 ⟨rfl,h2⟩;have B2:=aB (aF B1.out h2 lz9);have Y1:Hid (BoxN w2 w.heap.size t.f):=(h2.block _ (aA X1.out)).trans X1.out;have Y2:Hid (w2.heap[w.heap.size+1]?=some (.cells #[.bool c,.bool f] 27 (0,0))):=(h2.block _ (aA X2.out)).trans X2.out;clear h2)
  obtain⟨m0,m1,m2,m3,m4,m5⟩:=Y1.out.six
  simp only [Nat.zero_add] at m1 m2 m3 m4 m5
  have b0:=aC Y2.out (i:=0) rfl
  have b1:=aC Y2.out (i:=1) rfl
  have PRN:Hid (PR w2.heap.size (w2.alloc (.cells #[.bool c,.bool f,.pointer none,.slice none 0 0] 56)) w2.heap.size c f []):=⟨.pointer none,.slice none 0 0,aE w2 _,.inl rfl,⟨rfl,.inl ⟨rfl,rfl⟩⟩,fun _=>rfl,Nat.le_refl _⟩
  go_upto_region 5 with fail
  have Z1:Hid (BoxN (w2.alloc (.cells #[.bool c,.bool f,.pointer none,.slice none 0 0] 56)) w.heap.size t.f):=(Below.heap_alloc _ _ _ (aA Y1.out)).trans Y1.out
  have B3:Hid (Below w2.heap.size w2 (w2.alloc (.cells #[.bool c,.bool f,.pointer none,.slice none 0 0] 56))):=bz9
  have WT:=aB (yQ c f t w2 _ w2.heap.size [] (HT.out.kept B2.out) OK.out B3.out (HG.out.kept B2.out) PRN.out (by have:=RM.out;simp;omega))
  obtain⟨z0,z1,z2,z3,z4,z5⟩:=Z1.out.six
  simp only [Nat.zero_add] at z1 z2 z3 z4 z5
  generalize (w2.alloc (.cells #[.bool c,.bool f,.pointer none,.slice none 0 0] 56))=w3 at PRN Z1 B3 WT z0 z1 z2 z3 z4 z5 ⊢
  go_upto_region 6 with (go_at_call 23;refine(WT.out).mono ?_;rintro e w4 ⟨rfl,l4,h41,h42⟩;have R4:=aB h41;have P4:=aB h42;have B4:=aB (aF B2.out (B3.out.trans h42.2.1) lz9);clear h41 h42)
  have LG:=aB (qC P4.out.1)
  have SG:=aB (oZ P4.out.1)
  by_cases hlong:2000 < l4.length
  ·rw [decide_eq_true hlong] at LG
   have E:Hid (out=([],30)):=by
    refine aB ?_
    rw [<- HO.out]
    unfold fA
    rw [if_neg (by rw [HR.out];simp),if_pos]
    rcases R4.out with q | ⟨_,q,_⟩
    ·rw [q] at hlong;simpa using hlong
    ·simpa using q
   clear hlong
   go_wp2_with (go_at_call 24;refine(LG.out).mono ?_;rintro e w5 ⟨rfl,h5⟩;subst w5)
   go_ret2
   refine⟨?_,B4.out⟩
   rw [E.out]
   rfl
  ·rw [decide_eq_false hlong] at LG
   have E:Hid (out=(l4,0)):=by
    refine aB ?_
    rw [<- HO.out]
    unfold fA
    have q:l4=prE c (er t):=by
     rcases R4.out with q | ⟨q,_,_⟩
     ·simpa using q
     ·exact absurd q hlong
    rw [if_neg (by rw [HR.out];simp),if_neg (by rw [<- q];exact hlong),q]
   clear hlong
   go_wp2_with first
    |(go_at_call 24;refine(LG.out).mono ?_;rintro e w5 ⟨rfl,h5⟩;subst w5)
    |(go_at_call 25;refine(SG.out).mono ?_;rintro e w6 ⟨rfl,h6,-⟩;have B6:=aB (aF B2.out (B3.out.trans (P4.out.2.1.trans h6)) lz9);clear h6)
   go_ret2
   refine⟨?_,B6.out⟩
   rw [E.out]
   rfl
 ·have E:Hid (out=([],r)):=by
   refine aB ?_
   rw [<- HO.out]
   unfold fA
   rw [HR.out,if_pos hr0]
  have q0:(r != 0)=true:=by simpa using hr0
  have q1:(r==0)=false:=by simpa using hr0
  clear hr0
  go_wp2_with (go_at_call 11;refine(RT.out).mono ?_;rintro e w2 ⟨rfl,h2⟩;have B2:=aB (aF B1.out h2 lz9);clear h2)
  go_ret2
  refine⟨?_,B2.out⟩
  rw [E.out]
  rfl
end Go.Proofs.YticfnglebbakkaaGreatDoor
