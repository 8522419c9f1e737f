/-
  Parts of the proof.
-/
import Derived.Test.YtliflleaeimngaaGreatDoorRightsProofA0
import Derived.Test.YtliflleaeimngaaGreatDoorRightsProofB2
import Derived.Test.YtliflleaeimngaaGreatDoorRightsProofB17
import Derived.Test.YtliflleaeimngaaGreatDoorRightsProofB18
import Derived.BigRegion
import Derived.Lib.ConvBytes
import Derived.Test.YtliflleaeimngaaGreatDoorRightsProofB0
import Derived.Test.YtliflleaeimngaaGreatDoorRightsProofB3
set_option linter.unusedSimpArgs false
set_option maxRecDepth 100000
set_option maxHeartbeats 8000000
namespace Go.Proofs.YtliflleaeimngaaGreatDoor
open Go Go.RowKit
section
attribute [local go_sem] Oper.semAt_some
theorem bD:Tryz.prog.underlying 69=some (.slice 9):=by kernel_rfl
theorem bG:(Tryz.prog.info? 9).map (fun i=>(i.zero,i.size,i.bytes))=some (some (.string ⟨#[]⟩),1,16):=by kernel_rfl
def stC(xs:List (List UInt8)):List Value:=xs.map fun x=>.string (txt x)
theorem zG(a b:List (List UInt8)):stC (a++b)=stC a++stC b:=by simp [stC]
abbrev SR(base:Nat)(w:World)(v:Value)(xs:List (List UInt8)):Prop:=w.ownsRow base 9 1 v xs.length (stC xs)
theorem iO(i:Nat)(hi:i<100)(d:List UInt8)(hd:Lib.decDigits i=d)(w:World):Calls Tryz.prog 51 #[.int .i64 (i:Int)] w fun e w'=>e=.returned (.string (txt d))/\w'=w:=by
 have:=Tryz.strconv_Itoa_small i hi w
 rw [hd] at this
 exact this
def aS:aQ:=1#256 <<< 97
theorem aL1:aB aS 0=0/\aB aS 1=8589934592/\aB aS 2=0/\aB aS 3=0:=by decide +kernel
theorem aL2:aT (aP aS)=[(97,97)]:=by decide +kernel
theorem aD3(W:World)(a b:UInt8):(convert 56 9 (.slice (some ⟨W.heap.size,0,none⟩) 2 2)).run Tryz.prog (W.alloc (.cells #[.int .u8 (a.toNat:Int),.int .u8 (b.toNat:Int)] 5)).drew=.ok (.string (txt [a,b])) (W.alloc (.cells #[.int .u8 (a.toNat:Int),.int .u8 (b.toNat:Int)] 5)).drew:=by
 refine run_convert_bytes_back (W.alloc (.cells #[.int .u8 (a.toNat:Int),.int .u8 (b.toNat:Int)] 5)).drew _ _ 5 ⟨W.heap.size,0,none⟩ 2 [a,b] Tryz.underlying56 Tryz.underlying5 Tryz.underlying9 (fun j hj=>?_)
 have hn:(W.alloc (.cells #[.int .u8 (a.toNat:Int),.int .u8 (b.toNat:Int)] 5)).drew.heap[W.heap.size]?=some (.cells #[.int .u8 (a.toNat:Int),.int .u8 (b.toNat:Int)] 5 (0,0)):=aE W _
 match j,hj with
 | 0,_=>exact aA hn (i:=0) rfl
 | 1,_=>exact aA hn (i:=1) rfl
theorem pT(w:World):Calls Tryz.prog 85 #[.int .i64 97] w fun e w'=>e=.returned (.string (txt [54,49]))/\wBl w w':=by
 have hand:bits .and .i64 97 15=1:=by decide
 have hcv:=aD3 w
 go_enter Tryz.func85,Tryz.ntmps85
 go_wp2
 go_region
 all_goals go_wp2
 all_goals go_ret
 all_goals exact⟨rfl,(bz9).drew⟩
theorem mF(w:World):Calls Tryz.prog 68 #[.agg #[.int .i64 97,.int .i64 97]] w fun e w'=>e=.returned (.string (txt [54,49]))/\wBl w w':=by
 have B1:Hid (wBl w (w.alloc (.cells #[.int .i64 97,.int .i64 97] 120))):=bz9
 go_enter Tryz.func68,Tryz.ntmps68
 go_wp2_with (go_at_call 85;(with_reducible refine(pT _).mono ?_);rintro e w5 ⟨rfl,h5⟩;have B5:=aD (aF B1.o h5 lz9);clear h5)
 go_ret
 exact⟨rfl,B5.o⟩
end
section
attribute [local go_sem] Oper.semAt_some
theorem SR.split{base:Nat}{w:World}{v:Value}{xs:List (List UInt8)}(h:SR base w v xs)(hx:xs≠[]):∃ g c,v=.slice (some ⟨g,0,none⟩) xs.length c/\base<=g/\g<w.heap.size/\xs.length<=c/\∀ (j:Nat) (y:ByteArray),(xs.map txt)[j]?=some y->w.cell? ⟨g,0+j,none⟩=some (.string y):=by
 rcases h.2 with⟨_,hz⟩ | ⟨g,cap,cur,hv,h1,h2,h3,h4,h5,h6⟩
 ·exact absurd (r6 hz) hx
 ·refine⟨g,cap,hv,h1,aC h2,h3,fun j y hy=>?_⟩
  have h7:(stC xs)[j]?=some (.string y):=by
   simp only [List.getElem?_map,stC] at hy ⊢
   cases hj:xs[j]? with
   | none=>rw [hj] at hy;cases hy
   | some z=>rw [hj] at hy;simp at hy;simp [hy]
  have h8:=h.cells (g:=g) (by rw [hv];rfl) j _ h7
  cases j with
  | zero=>simpa [Addr.add] using h8
  | succ j=>simpa [Addr.add] using h8
theorem hZ{base:Nat}{w:World}{g c n:Nat}{xs:List (List UInt8)}{sb:ByteArray}(sep r:List UInt8)(hv:SR base w (.slice (some ⟨g,0,none⟩) n c) xs)(hnx:xs.length=n)(hsb:sb=txt sep)(hx:xs≠[])(hr:Lib.join xs sep=r)(hl:r.length<=100000)(hn:n<=100000) :
  Calls Tryz.prog 49 #[.slice (some ⟨g,0,none⟩) n c,.string sb] w fun e w'=>e=.returned (.string (txt r))/\wBl w w':=by
 subst hnx hsb
 obtain⟨g',c',e,h1,h2,h3,h4⟩:=SR.split hv hx
 cases e
 have e1:(xs.map txt).length=xs.length:=by simp
 have e2:(xs.map txt).map (fun y:ByteArray=>y.data.toList)=xs:=by rw [List.map_map];exact(List.map_congr_left (fun z _=>rfl)).trans (List.map_id xs)
 have:=Tryz.strings_Join g 0 c (xs.map txt) (txt sep) w h4 h2 (by omega) (by omega) (by rw [e2];show (Lib.join xs sep).length<=_;rw [hr];omega)
 rw [e1,e2,show (txt sep).data.toList=sep from rfl,hr] at this
 exact this
theorem jK{w:World}(hT:z1_Tab w):Calls Tryz.prog 53 #[.agg #[.int .u64 (aB aS 0),.int .u64 (aB aS 1),.int .u64 (aB aS 2),.int .u64 (aB aS 3)]] w fun e w'=>e=.returned (.string (txt [54,49]))/\wBl w w':=by
 have B1:Hid (wBl w (w.alloc (.cells #[.int .u64 (aB aS 0),.int .u64 (aB aS 1),.int .u64 (aB aS 2),.int .u64 (aB aS 3)] 52))):=bz9
 have HC:=aD (fJ aS (w.alloc (.cells #[.int .u64 (aB aS 0),.int .u64 (aB aS 1),.int .u64 (aB aS 2),.int .u64 (aB aS 3)] 52)) (hT.below B1.o))
 rw [aL2] at HC
 obtain⟨t0,hi,hz0,hz1,hz2⟩:=info_parts bG
 clear hT
 go_enter Tryz.func53,Tryz.ntmps53
 go_wp2_with (go_at_call 67;(with_reducible refine(HC.o).mono ?_))
 rintro e w2 ⟨v,rfl,hrow,-,h2⟩
 have B2:=aD (aF B1.o h2 lz9)
 rcases hrow.2 with⟨_,hz⟩ | ⟨g,cap,cur,rfl,hg1,hg2,hg3,hg4,-⟩
 ·cases hz
 have r0:w2.cell? ⟨g,0,none⟩=some (.int .i64 97):=hrow.cells (g:=g) rfl 0 _ rfl
 have r1:w2.cell? ⟨g,1,none⟩=some (.int .i64 97):=hrow.cells (g:=g) rfl 1 _ rfl
 have lg:=aC hg2
 clear hrow h2 hg1 hg2 hg3 hg4 HC B1
 go_wp2
 refine cR 2 (aX ?_)
 go_wp2_with first
  |(go_at_call 68;(with_reducible refine(mF _).mono ?_);rintro e w3 ⟨rfl,h3⟩;have B3:=aD (aF B2.o ((bz9).trans (h3.mono (by simp))) lz9);clear h3)
  |(at_builtin;refine wpList_append_own_at _ rfl _ _ 69 rfl w.heap.size 9 t0 (.string ⟨#[]⟩) 1 16 bD hi hz0 hz1 hz2 rfl (by decide) (.slice none 0 0) 0 [] rfl (j8 _ _ _ _) ⟨w3.heap.size,0,none⟩ 1 1 [.string (txt [54,49])] rfl rfl (bH _ _ _) (by simp [Value.oneCell']) ?c3 ?c4 ?c5 ?_)
 case c3=>unfold maxLen;omega
 case c4=>omega
 case c5=>have:=B3.o.size;simp;omega
 intro v4 w4 hown hgrow _ hblk
 have B4:Hid (wBl w w4):=aD ((B3.o.alloc (by have:=B3.o.size;omega) _).grown hgrow (by have:=B3.o.size;simp;omega) (fun k hk=>by cases hk))
 have O4:Hid (SR w.heap.size w4 v4 [[54,49]]):=hown
 obtain⟨g4,c4,rfl,-⟩:=SR.split O4.o (by simp)
 have HJ:=aD (hZ (n:=1) (c:=c4) (sb:=⟨#[44]⟩) (xs:=[[54,49]]) [44] [54,49] O4.o rfl rfl (by simp) rfl (by decide) (by decide))
 clear hown hgrow hblk
 go_wp2
 refine aX ?_
 go_wp2_with (go_at_call 49;(with_reducible refine(HJ.o).mono ?_);rintro e w5 ⟨rfl,h5⟩;have B5:=aD (aF B4.o h5 lz9);clear h5)
 go_ret
 exact⟨rfl,B5.o⟩
end
section
attribute [local go_sem] Oper.semAt_some
def hxD(n:Nat):UInt8:=[48,49,50,51,52,53,54,55,56,57,97,98,99,100,101,102].getD n 0
def hxW(b:Nat):List UInt8:=[hxD (b/16),hxD (b%16)]
theorem aH8(b:Nat)(hb:b<256):bits .and .i64 (b:Int) 15=(b:Int)%16:=by
 have h:∀ b:Fin 256,bits .and .i64 ((b.val:Nat):Int) 15=((b.val:Nat):Int)%16:=by decide +kernel
 exact h ⟨b,hb⟩
theorem aD1(n:Nat)(h:n<16)(h':n<(⟨#[48,49,50,51,52,53,54,55,56,57,97,98,99,100,101,102]⟩:ByteArray).size):(⟨#[48,49,50,51,52,53,54,55,56,57,97,98,99,100,101,102]⟩:ByteArray)[n]=hxD n:=by
 have:∀ n:Fin 16,(⟨#[48,49,50,51,52,53,54,55,56,57,97,98,99,100,101,102]⟩:ByteArray)[n.val]'(n.isLt)=hxD n.val:=by decide +kernel
 exact this ⟨n,h⟩
theorem iS(b:Nat)(hb:b<256)(w:World):Calls Tryz.prog 85 #[.int .i64 (b:Int)] w fun e w'=>e=.returned (.string (txt (hxW b)))/\wBl w w':=by
 have hand:=aH8 b hb
 have q1:0<=(b:Int)/16/\(b:Int)/16<16:=by omega
 have q2:0<=(b:Int)%16/\(b:Int)%16<16:=by omega
 have p1:0<=(b:Int)/16:=q1.1
 have p2:(b:Int)/16<16:=q1.2
 have p3:0<=(b:Int)%16:=q2.1
 have p4:(b:Int)%16<16:=q2.2
 have hcv:=aD3 w
 go_enter Tryz.func85,Tryz.ntmps85
 go_wp2
 go_region
 all_goals go_wp2
 all_goals go_ret
 all_goals refine⟨?_,(bz9).drew⟩
 all_goals show Ending.returned (.string (txt [_,_]))=_
 all_goals rw [aD1 _ (by omega),aD1 _ (by omega)]
 all_goals rfl
end
section
attribute [local go_sem] Oper.semAt_some cD
theorem lO(a b:List UInt8):txt a++txt b=txt (a++b):=by
 simp [txt,ByteArray.ext_iff]
def rgW(lo hi:Nat):List UInt8:=if lo=hi then hxW lo else hxW lo++[45]++hxW hi
theorem mE(lo hi:Nat)(h1:lo<256)(h2:hi<256)(w:World):Calls Tryz.prog 68 #[.agg #[.int .i64 (lo:Int),.int .i64 (hi:Int)]] w fun e w'=>e=.returned (.string (txt (rgW lo hi)))/\wBl w w':=by
 have B1:Hid (wBl w (w.alloc (.cells #[.int .i64 (lo:Int),.int .i64 (hi:Int)] 120))):=bz9
 have X1:=aD (aE w (.cells #[.int .i64 (lo:Int),.int .i64 (hi:Int)] 120))
 have BW:=fun V=>iS lo h1 V
 have BX:=fun V=>iS hi h2 V
 obtain⟨a,ha⟩:∃ a,hxW lo=a:=⟨_,rfl⟩
 obtain⟨b,hb⟩:∃ b,hxW hi=b:=⟨_,rfl⟩
 unfold rgW
 rw [ha,hb]
 rw [ha] at BW
 rw [hb] at BX
 have HA:Hid (a.length=2):=aD (by rw [<- ha];rfl)
 have HB:Hid (b.length=2):=aD (by rw [<- hb];rfl)
 clear ha hb
 by_cases e:lo=hi
 ·subst e
  rw [if_pos rfl]
  go_enter Tryz.func68,Tryz.ntmps68
  go_wp2_with (go_at_call 85;(with_reducible refine(BW _).mono ?_);rintro e w5 ⟨rfl,h5⟩;have B5:=aD (aF B1.o h5 lz9);clear h5)
  go_ret
  exact⟨rfl,B5.o⟩
 ·rw [if_neg e]
  have L1:a.length=2:=HA.o
  have L2:b.length=2:=HB.o
  have z1:(txt a).size=2:=by rw [aR];exact L1
  have z2:(txt b).size=2:=by rw [aR];exact L2
  have z3:(txt (a++[45])).size=3:=by rw [aR];simp;omega
  have A1:txt a++(⟨#[45]⟩:ByteArray)=txt (a++[45]):=lO a [45]
  have A2:txt (a++[45])++txt b=txt (a++[45]++b):=lO _ b
  have E:=aD (rfl:txt (a++[45]++b)=txt (a++[45]++b))
  generalize txt (a++[45]++b)=t3 at A2 E ⊢
  generalize txt (a++[45])=t1 at z3 A1 A2
  generalize txt b=d2 at *
  generalize txt a=d1 at *
  have f1:¬ 9223372036854775807<d1.size+(⟨#[45]⟩:ByteArray).size:=by show ¬ 9223372036854775807<d1.size+1;omega
  have f1b:¬ 9223372036854775807<d1.size+1:=by omega
  have f2:¬ 9223372036854775807<t1.size+d2.size:=by omega
  clear z1 z2 z3 L1 L2
  have e1:((lo:Int)==(hi:Int))=false:=by simp;omega
  have e2:¬ ((lo:Int)=(hi:Int)):=by omega
  go_enter Tryz.func68,Tryz.ntmps68
  go_upto_region 1 with fail
  generalize (w.alloc (.cells #[.int .i64 (lo:Int),.int .i64 (hi:Int)] 120))=w1 at B1 X1 ⊢
  have c0:=aA X1.o (i:=0) rfl
  have c1:=aA X1.o (i:=1) rfl
  have l1:=aC X1.o
  go_upto_region 3 with fail
  refine wx9 ?_
  repeat (go_big_quiet_step (first | exact rfl |(go_at_call 85;(with_reducible exact cE (BW _))) |(go_at_call 85;(with_reducible exact cE (BX _)))))
  refine wpQuiet_nil ?_
  intro w3 hw
  have hb3:=cZ hw
  clear hw
  go_wp2
  go_ret
  exact⟨rfl,aF B1.o hb3 lz9⟩
end
section
attribute [local go_sem] Oper.semAt_some
def cL(c:UInt8):List UInt8->List UInt8×List UInt8×Bool
 | []=>([],[],false)
 | x :: r=>if x==c then ([],r,true) else (x :: (cL c r).1,(cL c r).2.1,(cL c r).2.2)
theorem qU(c:UInt8):∀ l,Lib.indexByte l c=-1->cL c l=(l,[],false)
 | [],_=>rfl
 | x :: r,h=>by
  unfold Lib.indexByte at h
  cases hx:(x==c) with
  | true=>rw [hx] at h;simp at h
  | false=>
   rw [hx] at h
   cases hr:(Lib.indexByte r c==-1) with
   | true=>
    have h2:=qU c r (by simpa using hr)
    unfold cL
    rw [hx,h2]
    rfl
   | false=>
    rw [hr] at h
    simp at h hr
    have:=Lib.indexByte_ge r c
    omega
theorem mP(c:UInt8):∀ l (n:Nat),Lib.indexByte l c=(n:Int)->cL c l=(l.take n,l.drop (n+1),true)/\n<l.length
 | [],n,h=>by unfold Lib.indexByte at h;omega
 | x :: r,n,h=>by
  unfold Lib.indexByte at h
  cases hx:(x==c) with
  | true=>
   rw [hx] at h
   simp at h
   obtain rfl:n=0:=by omega
   unfold cL
   rw [hx]
   exact⟨rfl,by simp⟩
  | false=>
   rw [hx] at h
   cases hr:(Lib.indexByte r c==-1) with
   | true=>rw [hr] at h;simp at h
   | false=>
    rw [hr] at h
    simp at h
    obtain⟨m,rfl⟩:∃ m,n=m+1:=⟨n-1,by have h1:=Lib.indexByte_ge r c;simp at hr;omega⟩
    obtain⟨h2,h3⟩:=mP c r m (by omega)
    unfold cL
    rw [hx,h2]
    exact⟨rfl,by simp;omega⟩
theorem pV(l:List UInt8)(a b:Nat):(txt l).extract a b=txt ((l.drop a).take (b-a)):=by
 apply ByteArray.ext
 simp [txt,ByteArray.data_extract]
theorem aH2(s:List UInt8)(c:UInt8)(hl:s.length<=9223372036854775806)(w:World):Calls Tryz.prog 97 #[.string (txt s),.string ⟨#[c]⟩] w fun e w'=>e=.returned (.tuple #[.string (txt (cL c s).1),.string (txt (cL c s).2.1),.bool (cL c s).2.2])/\wBl w w':=by
 have HX:Hid (Calls Tryz.prog 114 #[.string (txt s),.string ⟨#[c]⟩] w fun e w'=>e=.returned (.int .i64 (Lib.indexByte s c))/\w'=w):=Tryz.stringslite_Index_one (txt s) c w
 obtain⟨i,hi⟩:∃ i,Lib.indexByte s c=i:=⟨_,rfl⟩
 have hge:=Lib.indexByte_ge s c
 rw [hi] at HX hge
 by_cases h0:i=-1
 ·subst h0
  rw [qU c s hi]
  clear hi hge
  go_enter Tryz.func97,Tryz.ntmps97
  go_wp2_with (go_at_call 114;(with_reducible refine(HX.o).mono ?_);rintro e w5 ⟨rfl,rfl⟩)
  refine bodyPost_ret (by simp [results,Tryz.results97,go_sem];try rfl) rfl ?_
  exact⟨rfl,Below.refl _ _⟩
 ·obtain⟨n,rfl⟩:∃ n:Nat,i=(n:Int):=⟨i.toNat,by omega⟩
  obtain⟨h1,h2⟩:=mP c s n hi
  rw [h1]
  have hs:(txt s).size=s.length:=aR s
  have E1:(txt s).extract 0 n=txt (s.take n):=by rw [pV];simp
  have E2:(txt s).extract (n+1) s.length=txt (s.drop (n+1)):=by rw [pV,k6 (by simp)]
  have i1:(0:Int)<=(n:Int):=by omega
  have i2:(n:Int)<=((txt s).size:Int):=by omega
  have i3:(n:Int)+1<=((txt s).size:Int):=by omega
  have hw:IntKind.wrap .i64 ((n:Int)+1)=(n:Int)+1:=wrap_small _ (by omega) (by omega)
  clear hi hge h0 h1
  go_enter Tryz.func97,Tryz.ntmps97
  go_wp2_with (go_at_call 114;(with_reducible refine(HX.o).mono ?_);rintro e w5 ⟨rfl,rfl⟩)
  go_region
  all_goals go_wp2
  all_goals refine bodyPost_ret (by simp [results,Tryz.results97,go_sem];try rfl) rfl ?_
  all_goals exact⟨rfl,(Below.refl _ _).drew⟩
theorem qT(s:List UInt8)(c:UInt8)(hl:s.length<=9223372036854775806)(w:World):Calls Tryz.prog 73 #[.string (txt s),.string ⟨#[c]⟩] w fun e w'=>e=.returned (.tuple #[.string (txt (cL c s).1),.string (txt (cL c s).2.1),.bool (cL c s).2.2])/\wBl w w':=by
 have HX:=aD (aH2 s c hl w)
 obtain⟨⟨a,b,f⟩,hr⟩:∃ r,cL c s=r:=⟨_,rfl⟩
 rw [hr] at HX ⊢
 clear hr
 go_enter Tryz.func73,Tryz.ntmps73
 go_wp2_with (go_at_call 97;(with_reducible refine(HX.o).mono ?_);rintro e w5 ⟨rfl,h5⟩;have B5:=aD h5;clear h5)
 refine bodyPost_ret (by simp [results,Tryz.results73,go_sem];try rfl) rfl ?_
 exact⟨rfl,B5.o⟩
end
section
attribute [local go_sem] Oper.semAt_some
def LB(w:World)(b:Nat)(rest:List UInt8)(more:Bool)(at_:Int):Prop:=w.heap[b]?=some (.cells #[.string (txt rest),.bool more,.int .i64 at_] 114 (0,0))
abbrev At1(b:Nat):Nat->Prop:=fun k=>k=b
theorem LB.kept{w w':World}{b:Nat}{r:List UInt8}{m:Bool}{a:Int}(h:LB w b r m a)(hb:wBl w w'):LB w' b r m a:=(hb.block _ (aC h)).trans h
theorem fO{w:World}{b:Nat}{s:List UInt8}{a:Int}(h:LB w b s true a)(hl:s.length<=1000000) :
  Calls Tryz.prog 75 #[.pointer (some ⟨b,0,none⟩)] w fun e w'=>e=.returned (.string (txt (cL 32 s).1))/\LB w' b (cL 32 s).2.1 (cL 32 s).2.2 a/\Fr (At1 b) w w':=by
 have H:=aD h
 have c0:=aA h (i:=0) rfl
 have c1:=aA h (i:=1) rfl
 have HX:=aD (qT s 32 (by omega) w)
 obtain⟨⟨x,y,f⟩,hr⟩:∃ r,cL 32 s=r:=⟨_,rfl⟩
 rw [hr] at HX ⊢
 clear hr h
 go_enter Tryz.func75,Tryz.ntmps75
 go_wp2_with (go_at_call 73;(with_reducible refine(HX.o).mono ?_);rintro e w5 ⟨rfl,h5⟩;have B5:=aD h5;have H5:=aD (H.o.kept h5);have d0:=aA H5.o (i:=0) rfl;have d1:=aA H5.o (i:=1) rfl;have f0:=aG H5.o 0;have f1:=aG H5.o 1;clear h5)
 go_ret
 refine⟨rfl,?_,Fr.setCell (S:=At1 b) (Fr.setCell (S:=At1 b) (Fr.of_below B5.o) (p:=⟨b,0,none⟩) rfl _) (p:=⟨b,1,none⟩) rfl _⟩
 exact(aI (aI H5.o 0 _) 1 _)
theorem iM{w:World}{b:Nat}{s:List UInt8}{a:Int}(h:LB w b s false a) :
  Calls Tryz.prog 77 #[.pointer (some ⟨b,0,none⟩)] w fun e w'=>e=.returned (.tuple #[])/\w'=w:=by
 have c1:=aA h (i:=1) rfl
 clear h
 go_enter Tryz.func77,Tryz.ntmps77
 go_wp2
 go_end0
 exact⟨rfl,rfl⟩
theorem pN{w:World}(b:Nat)(n:Nat)(hn:n<100)(d:List UInt8)(hd:Lib.decDigits n=d)(ha:Lib.atoi d=some (n:Int))(hl:d.length<=6) :
  Calls Tryz.prog 98 #[.pointer (some ⟨b,0,none⟩),.string (txt d)] w fun e w'=>e=.returned (.int .i64 (n:Int))/\wBl w w':=by
 have HA:=aD (Tryz.strconv_Atoi (txt d) (n:Int) (by rw [aR];omega) ha w)
 have HI:=iO n hn d hd
 have hz:=aR d
 have i1:((txt d).size:Int)<=6:=by omega
 have i2:¬ ((n:Int)<0):=by omega
 clear hd ha
 go_enter Tryz.func98,Tryz.ntmps98
 go_wp2_with first
  |(go_at_call 115;(with_reducible refine(HA.o).mono ?_);rintro e w5 ⟨rfl,t5,rfl⟩)
  |(go_at_call 51;(with_reducible refine(HI _).mono ?_);rintro e w6 ⟨rfl,rfl⟩)
 go_ret
 exact⟨rfl,Lib.below_freeze (((Below.refl _ _).drew).alloc lz9 _) (p:=⟨w.heap.size,_,none⟩) lz9 _⟩
theorem fA{w:World}{b:Nat}{s d r:List UInt8}{f:Bool}{a:Int}(h:LB w b s true a)(hs:cL 32 s=(d,r,f))(hl:s.length<=1000000)(n:Nat)(hn:n<100)(hd:Lib.decDigits n=d)(ha:Lib.atoi d=some (n:Int))(hl6:d.length<=6) :
  Calls Tryz.prog 76 #[.pointer (some ⟨b,0,none⟩)] w fun e w'=>e=.returned (.int .i64 (n:Int))/\LB w' b r f a/\Fr (At1 b) w w':=by
 have HW:=aD (fO h hl)
 rw [hs] at HW
 clear h hs
 go_enter Tryz.func76,Tryz.ntmps76
 go_wp2_with first
  |(go_at_call 75;(with_reducible refine(HW.o).mono ?_);rintro e w5 ⟨rfl,h51,h52⟩;have L5:=aD h51;have F5:=aD h52;clear h51 h52)
  |(go_at_call 98;(with_reducible refine(pN b n hn d hd ha hl6).mono ?_);rintro e w6 ⟨rfl,h6⟩;have L6:=aD (L5.o.kept h6);have F6:=aD (F5.o.then h6);clear h6)
 go_ret
 exact⟨rfl,L6.o,F6.o⟩
end
section
attribute [local go_sem] Oper.semAt_some
theorem aF6(w:World):Calls Tryz.prog 141 #[.string ⟨#[54,49]⟩,.int .i64 16,.int .i64 8] w fun e w'=>e=.returned (.tuple #[.int .u64 97,.nilIface])/\wBl w w':=by
 have hcv:=Lib.run_convert_string_bytes (P:=Tryz.prog) w 9 56 5 ⟨#[54,49]⟩ Tryz.underlying9 Tryz.underlying56 Tryz.underlying5
 go_enter Tryz.func141,Tryz.ntmps141
 go_wp2
 have B1:Hid (wBl w (Lib.bytesWorld w 5 ⟨#[54,49]⟩)):=Lib.below_freeze (((Below.refl _ _).drew).alloc lz9 _) (p:=⟨w.heap.size,_,none⟩) lz9 _
 have e0:(Lib.bytesWorld w 5 ⟨#[54,49]⟩).cell? ⟨w.heap.size,0,none⟩=some (.int .u8 54):=Lib.bytesWorld_cell w 5 ⟨#[54,49]⟩ 0 (by decide)
 have e1:(Lib.bytesWorld w 5 ⟨#[54,49]⟩).cell? ⟨w.heap.size,1,none⟩=some (.int .u8 49):=Lib.bytesWorld_cell w 5 ⟨#[54,49]⟩ 1 (by decide)
 clear hcv
 generalize (Lib.bytesWorld w 5 ⟨#[54,49]⟩)=w1 at B1 e0 e1 ⊢
 refine cR 3 (aX ?_)
 go_wp2
 refine aX ?_
 go_wp2
 refine aX ?_
 go_wp2
 go_ret2
 exact⟨rfl,B1.o⟩
theorem aJ4(w:World):Calls Tryz.prog 132 #[.string ⟨#[54,49]⟩,.int .i64 16,.int .i64 8] w fun e w'=>e=.returned (.tuple #[.int .u64 97,.nilIface])/\wBl w w':=by
 have HC:=aD (aF6 w)
 go_enter Tryz.func132,Tryz.ntmps132
 go_wp2_with (go_at_call 141;(with_reducible refine(HC.o).mono ?_);rintro e w5 ⟨rfl,h5⟩;have B5:=aD h5;clear h5)
 go_ret2
 exact⟨rfl,B5.o⟩
theorem vQ(b:Nat)(w:World):Calls Tryz.prog 117 #[.pointer (some ⟨b,0,none⟩),.string ⟨#[54,49]⟩] w fun e w'=>e=.returned (.int .i64 97)/\wBl w w':=by
 have HC:=aD (aJ4 w)
 go_enter Tryz.func117,Tryz.ntmps117
 go_wp2_with (go_at_call 132;(with_reducible refine(HC.o).mono ?_);rintro e w5 ⟨rfl,h5⟩;have B5:=aD h5;clear h5)
 go_ret
 exact⟨rfl,B5.o⟩
end
section
attribute [local go_sem] Oper.semAt_some
theorem yH:cK 97 97=aS:=by decide +kernel
theorem aK7:dU (0#256) aS=aS:=by decide +kernel
theorem yI:aB (0#256) 0=0/\aB (0#256) 1=0/\aB (0#256) 2=0/\aB (0#256) 3=0:=by decide +kernel
theorem qS{s:List UInt8}{c:UInt8}{a b:List UInt8}{f:Bool}(h:cL c s=(a,b,f))(hl:s.length<=1000000)(w:World):Calls Tryz.prog 73 #[.string (txt s),.string ⟨#[c]⟩] w fun e w'=>e=.returned (.tuple #[.string (txt a),.string (txt b),.bool f])/\wBl w w':=by
 have:=qT s c (by omega) w
 rw [h] at this
 exact this
theorem pG(b:Nat)(w:World):Calls Tryz.prog 100 #[.pointer (some ⟨b,0,none⟩),.string (txt [54,49])] w fun e w'=>e=.returned (.agg #[.int .u64 (aB aS 0),.int .u64 (aB aS 1),.int .u64 (aB aS 2),.int .u64 (aB aS 3)])/\wBl w w':=by
 have B1:Hid (wBl w (w.alloc (.cells #[.int .u64 0,.int .u64 0,.int .u64 0,.int .u64 0] 52))):=bz9
 have X1:Hid ((w.alloc (.cells #[.int .u64 0,.int .u64 0,.int .u64 0,.int .u64 0] 52)).heap[w.heap.size]?=some (.cells #[.int .u64 0,.int .u64 0,.int .u64 0,.int .u64 0] 52 (0,0))):=aE w _
 have HC:=fun W=>qS (s:=[54,49]) (c:=45) (a:=[54,49]) (b:=[]) (f:=false) (by decide) (by decide) W
 have HB:=fun W=>(show Calls Tryz.prog 117 #[.pointer (some ⟨b,0,none⟩),.string (txt [54,49])] W fun e w'=>e=.returned (.int .i64 97)/\wBl W w' from vQ b W)
 have HR:=fun W=>lC 97 97 W ⟨by decide,by decide,by decide⟩
 rw [yH] at HR
 go_enter Tryz.func100,Tryz.ntmps100
 go_upto_region 1 with fail
 generalize (w.alloc (.cells #[.int .u64 0,.int .u64 0,.int .u64 0,.int .u64 0] 52))=w1 at B1 X1 ⊢
 have l1:=aC X1.o
 go_wp2_with first
  |(go_at_call 73;(with_reducible refine(HC _).mono ?_);rintro e w2 ⟨rfl,h2⟩;have B2:=aD (aF B1.o h2 lz9);have X2:=aD ((h2.block _ l1).trans X1.o);clear h2)
  |(go_at_call 116;(with_reducible refine(HR _).mono ?_);rintro e w5 ⟨rfl,h5⟩;have B5:=aD (aF B4.o h5 lz9);have X5:=aD ((h5.block _ (aC X4.o)).trans X4.o);have s0:=aA X5.o (i:=0) rfl;have s1:=aA X5.o (i:=1) rfl;have s2:=aA X5.o (i:=2) rfl;have s3:=aA X5.o (i:=3) rfl;have f0:=aG X5.o 0;have f1:=aG X5.o 1;have f2:=aG X5.o 2;have f3:=aG X5.o 3;have l5:=aC X5.o;clear h5)
  |(go_at_call 117;(with_reducible refine(HB w3).mono ?_);rintro e w4 ⟨rfl,h4⟩;have B4:=aD (aF B3.o h4 lz9);have X4:=aD ((h4.block _ (aC X3.o)).trans X3.o);clear h4)
  |(go_at_call 117;(with_reducible refine(HB _).mono ?_);rintro e w3 ⟨rfl,h3⟩;have B3:=aD (aF B2.o h3 lz9);have X3:=aD ((h3.block _ (aC X2.o)).trans X2.o);clear h3)
 refine bodyPost_ret (v:=.agg #[.int .u64 (aB aS 0),.int .u64 (aB aS 1),.int .u64 (aB aS 2),.int .u64 (aB aS 3)]) (by simp [results,Tryz.results100,go_sem,s0,s1,s2,s3,l5]) rfl ⟨rfl,?_⟩
 repeat' (first | exact B5.o | refine Below.setCell ?_ (by simp) _ | refine Below.alloc ?_ (by simp <;> omega) _)
theorem eQ(W:World)(g:Nat)(a0 a1 a2 a3:Value):Fr (At1 g) W ((((W.setCell ⟨g,0,none⟩ a0).setCell ⟨g,1,none⟩ a1).setCell ⟨g,2,none⟩ a2).setCell ⟨g,3,none⟩ a3):=
 Fr.setCell (S:=At1 g) (Fr.setCell (S:=At1 g) (Fr.setCell (S:=At1 g) (Fr.setCell (S:=At1 g) (Fr.refl _ _) (p:=⟨g,0,none⟩) rfl _) (p:=⟨g,1,none⟩) rfl _) (p:=⟨g,2,none⟩) rfl _) (p:=⟨g,3,none⟩) rfl _
theorem nG{w w':World}{b:Nat}(h:z1_Tab w)(hf:Fr (At1 b) w w')(hb:2<b):z1_Tab w':=
 ⟨j5 h.1 hf.size,fun j hj=>(World.cell?_of_block (a:=⟨2,j,none⟩) (hf.block 2 h.1 (by show ¬ (2=b);omega))).trans (h.2 j hj)⟩
def SeP(w:World)(b:Nat)(a:Int)(e:Ending)(w':World):Prop:=e=.returned (.agg #[.int .u64 (aB aS 0),.int .u64 (aB aS 1),.int .u64 (aB aS 2),.int .u64 (aB aS 3)])/\LB w' b [] false a/\Fr (At1 b) w w'
theorem aF2{w:World}{b:Nat}{a:Int}(hT:z1_Tab w)(h:LB w b [54,49] true a)(h2:2<b):Calls Tryz.prog 80 #[.pointer (some ⟨b,0,none⟩)] w (SeP w b a):=by
 have lb:=aC h
 have B1:Hid (wBl w (w.alloc (.cells #[.int .u64 0,.int .u64 0,.int .u64 0,.int .u64 0] 52))):=bz9
 have X1:Hid ((w.alloc (.cells #[.int .u64 0,.int .u64 0,.int .u64 0,.int .u64 0] 52)).heap[w.heap.size]?=some (.cells #[.int .u64 0,.int .u64 0,.int .u64 0,.int .u64 0] 52 (0,0))):=aE w _
 have HW:=aD (fO (h.kept B1.o) (by decide))
 rw [show cL 32 [54,49]=([54,49],[],false) by decide] at HW
 have HC:=fun W=>qS (s:=[54,49]) (c:=44) (a:=[54,49]) (b:=[]) (f:=false) (by decide) (by decide) W
 have HR:=pG b
 have HO:=qX (0#256) aS
 rw [aK7,yI.1,yI.2.1,yI.2.2.1,yI.2.2.2] at HO
 have HT:=aD hT
 clear hT h
 have HW2:Hid (Calls Tryz.prog 75 #[.pointer (some ⟨b,0,none⟩)] (w.alloc (.cells #[.int .u64 0,.int .u64 0,.int .u64 0,.int .u64 0] 52)) fun e w'=>e=.returned (.string ⟨#[54,49]⟩)/\LB w' b [] false a/\Fr (At1 b) (w.alloc (.cells #[.int .u64 0,.int .u64 0,.int .u64 0,.int .u64 0] 52)) w'):=HW
 clear HW
 simp only [txt] at HC HR
 go_enter Tryz.func80,Tryz.ntmps80
 go_upto_region 1 with fail
 generalize (w.alloc (.cells #[.int .u64 0,.int .u64 0,.int .u64 0,.int .u64 0] 52))=w1 at B1 X1 HW2 ⊢
 have l1:=aC X1.o
 go_upto_region 3 with (go_at_call 75;(with_reducible refine(HW2.o).mono ?_);rintro e w2 ⟨rfl,h21,h22⟩;have L2:=aD h21;have F2:=aD h22;have X2:=aD ((h22.block _ l1 (by show ¬ (w.heap.size=b);omega)).trans X1.o);have FF:=aD ((Fr.of_below (S:=At1 b) B1.o).trans h22);clear h21 h22)
 have BA:wBl w2 (w2.alloc (.cells #[.int .u64 0,.int .u64 0,.int .u64 0,.int .u64 0] 52)):=bz9
 have X3:=aD ((BA.block _ (aC X2.o)).trans X2.o)
 have Y3:Hid ((w2.alloc (.cells #[.int .u64 0,.int .u64 0,.int .u64 0,.int .u64 0] 52)).heap[w2.heap.size]?=some (.cells #[.int .u64 0,.int .u64 0,.int .u64 0,.int .u64 0] 52 (0,0))):=aE w2 _
 have L3:=aD (L2.o.kept BA)
 have F3:=aD (FF.o.then BA)
 have l2:=aC X2.o
 clear BA
 generalize (w2.alloc (.cells #[.int .u64 0,.int .u64 0,.int .u64 0,.int .u64 0] 52))=w3 at X3 Y3 L3 F3 ⊢
 have sz3:=aC Y3.o
 go_wp2
 refine cR 2 (aX ?_)
 go_upto_region 7 with (go_at_call 73;(with_reducible refine(HC _).mono ?_);rintro e w4 ⟨rfl,h4⟩;have X4:=aD ((h4.block _ (aC X3.o)).trans X3.o);have Y4:=aD ((h4.block _ sz3).trans Y3.o);have L4:=aD (L3.o.kept h4);have F4:=aD (F3.o.then h4);clear h4)
 have t0:=aA Y4.o (i:=0) rfl
 have t1:=aA Y4.o (i:=1) rfl
 have t2:=aA Y4.o (i:=2) rfl
 have t3:=aA Y4.o (i:=3) rfl
 have lY:=aC Y4.o
 have X4d:Hid (w4.drew.heap[w.heap.size]?=some (.cells #[.int .u64 0,.int .u64 0,.int .u64 0,.int .u64 0] 52 (0,0))):=X4.o
 have Y4d:Hid (w4.drew.heap[w2.heap.size]?=some (.cells #[.int .u64 0,.int .u64 0,.int .u64 0,.int .u64 0] 52 (0,0))):=Y4.o
 have L4d:Hid (LB w4.drew b [] false a):=L4.o
 have F4d:Hid (Fr (At1 b) w w4.drew):=F4.o.drew
 go_region_with first
  |(go_at_call 100;(with_reducible refine(HR _).mono ?_);rintro e w5 ⟨rfl,h5⟩;have X5:=aD ((h5.block _ (aC X4d.o)).trans X4d.o);have Y5:=aD ((h5.block _ (aC Y4d.o)).trans Y4d.o);have L5:=aD (L4d.o.kept h5);have F5:=aD (F4d.o.then h5);have u0:=aA Y5.o (i:=0) rfl;have u1:=aA Y5.o (i:=1) rfl;have u2:=aA Y5.o (i:=2) rfl;have u3:=aA Y5.o (i:=3) rfl;clear h5)
  |(go_at_call 99;(with_reducible refine(HO _).mono ?_);rintro e w6 ⟨rfl,h6⟩;have X6:=aD ((h6.block _ (aC X5.o)).trans X5.o);have Y6:=aD ((h6.block _ (aC Y5.o)).trans Y5.o);have L6:=aD (L5.o.kept h6);have F6:=aD (F5.o.then h6);have v0:=aA Y6.o (i:=0) rfl;have v1:=aA Y6.o (i:=1) rfl;have v2:=aA Y6.o (i:=2) rfl;have v3:=aA Y6.o (i:=3) rfl;have g0:=aG Y6.o 0;have g1:=aG Y6.o 1;have g2:=aG Y6.o 2;have g3:=aG Y6.o 3;clear h6)
 all_goals
  have FZ:Hid (Fr (At1 w2.heap.size) w6 ((((w6.setCell ⟨w2.heap.size,0,none⟩ (.int .u64 (aB aS 0))).setCell ⟨w2.heap.size,1,none⟩ (.int .u64 (aB aS 1))).setCell ⟨w2.heap.size,2,none⟩ (.int .u64 (aB aS 2))).setCell ⟨w2.heap.size,3,none⟩ (.int .u64 (aB aS 3)))):=eQ _ _ _ _ _ _
  have Y7:Hid (((((w6.setCell ⟨w2.heap.size,0,none⟩ (.int .u64 (aB aS 0))).setCell ⟨w2.heap.size,1,none⟩ (.int .u64 (aB aS 1))).setCell ⟨w2.heap.size,2,none⟩ (.int .u64 (aB aS 2))).setCell ⟨w2.heap.size,3,none⟩ (.int .u64 (aB aS 3))).heap[w2.heap.size]?=some (.cells #[.int .u64 (aB aS 0),.int .u64 (aB aS 1),.int .u64 (aB aS 2),.int .u64 (aB aS 3)] 52 (0,0))):=aI (aI (aI (aI Y6.o 0 _) 1 _) 2 _) 3 _
  have lw2:=F2.o.size
  have lw1:=B1.o.size
  have F7:Hid (Fr (At1 b) w ((((w6.setCell ⟨w2.heap.size,0,none⟩ (.int .u64 (aB aS 0))).setCell ⟨w2.heap.size,1,none⟩ (.int .u64 (aB aS 1))).setCell ⟨w2.heap.size,2,none⟩ (.int .u64 (aB aS 2))).setCell ⟨w2.heap.size,3,none⟩ (.int .u64 (aB aS 3)))):=Fr.setNew (Fr.setNew (Fr.setNew (Fr.setNew F6.o (p:=⟨w2.heap.size,0,none⟩) (by show w.heap.size<=w2.heap.size;omega) _) (p:=⟨w2.heap.size,1,none⟩) (by show w.heap.size<=w2.heap.size;omega) _) (p:=⟨w2.heap.size,2,none⟩) (by show w.heap.size<=w2.heap.size;omega) _) (p:=⟨w2.heap.size,3,none⟩) (by show w.heap.size<=w2.heap.size;omega) _
  have X7:=aD ((FZ.o.block _ (aC X6.o) (by show ¬ (w.heap.size=w2.heap.size);omega)).trans X6.o)
  have L7:=aD ((FZ.o.block _ (aC L6.o) (by show ¬ (b=w2.heap.size);omega)).trans L6.o)
  clear v0 v1 v2 v3 g0 g1 g2 g3 u0 u1 u2 u3 t0 t1 t2 t3 FZ
  generalize ((((w6.setCell ⟨w2.heap.size,0,none⟩ (.int .u64 (aB aS 0))).setCell ⟨w2.heap.size,1,none⟩ (.int .u64 (aB aS 1))).setCell ⟨w2.heap.size,2,none⟩ (.int .u64 (aB aS 2))).setCell ⟨w2.heap.size,3,none⟩ (.int .u64 (aB aS 3)))=w7 at Y7 F7 X7 L7 ⊢
  have SW:Hid (Calls Tryz.prog 53 #[.agg #[.int .u64 (aB aS 0),.int .u64 (aB aS 1),.int .u64 (aB aS 2),.int .u64 (aB aS 3)]] w7 fun e w'=>e=.returned (.string ⟨#[54,49]⟩)/\wBl w7 w'):=jK (nG HT.o F7.o h2)
  have a0:=aA Y7.o (i:=0) rfl
  have a1:=aA Y7.o (i:=1) rfl
  have a2:=aA Y7.o (i:=2) rfl
  have a3:=aA Y7.o (i:=3) rfl
  go_wp2
  refine aX ?_
  go_wp2_with (go_at_call 53;(with_reducible refine(SW.o).mono ?_);rintro e w8 ⟨rfl,h8⟩;have X8:=aD ((h8.block _ (aC X7.o)).trans X7.o);have Y8:=aD ((h8.block _ (aC Y7.o)).trans Y7.o);have L8:=aD (LB.kept L7.o h8);have F8:=aD (F7.o.then h8);have b0:=aA Y8.o (i:=0) rfl;have b1:=aA Y8.o (i:=1) rfl;have b2:=aA Y8.o (i:=2) rfl;have b3:=aA Y8.o (i:=3) rfl;have s0:=aA X8.o (i:=0) rfl;have s1:=aA X8.o (i:=1) rfl;have s2:=aA X8.o (i:=2) rfl;have s3:=aA X8.o (i:=3) rfl;have f0:=aG X8.o 0;have f1:=aG X8.o 1;have f2:=aG X8.o 2;have f3:=aG X8.o 3;clear h8)
  refine bodyPost_ret (v:=.agg #[.int .u64 (aB aS 0),.int .u64 (aB aS 1),.int .u64 (aB aS 2),.int .u64 (aB aS 3)]) (by simp [results,Tryz.results80,go_sem,s0,s1,s2,s3]) rfl ⟨rfl,?_,?_⟩
  ·refine Eq.trans (Fr.block (S:=At1 w.heap.size) (eQ _ _ _ _ _ _) b (aC L8.o) (by show ¬ (b=w.heap.size);omega)) L8.o
  ·exact Fr.setNew (Fr.setNew (Fr.setNew (Fr.setNew F8.o (p:=⟨w.heap.size,0,none⟩) lz9 _) (p:=⟨w.heap.size,1,none⟩) lz9 _) (p:=⟨w.heap.size,2,none⟩) lz9 _) (p:=⟨w.heap.size,3,none⟩) lz9 _
end
section
attribute [local go_sem] Oper.semAt_some
theorem aJ7(w:World):Calls Tryz.prog 78 #[.string ⟨#[98,121,116,101]⟩] w fun e w'=>e=.returned (.tuple #[.int .i64 1,.bool true])/\w'=w:=by
 have hs1:=(show Calls Tryz.prog 33 #[.int .i64 1] w fun e w'=>e=.returned (.tuple #[.string ⟨#[98,121,116,101]⟩,.int .i64 65])/\w'=w from aO 1 w)
 go_enter Tryz.func78,Tryz.ntmps78
 go_wp2
 refine cR 1 (aX ?_)
 go_wp2_with (go_at_call 33;(with_reducible refine(hs1).mono ?_);rintro e w5 ⟨rfl,h5⟩;subst h5)
 go_ret2
 exact⟨rfl,rfl⟩
theorem aJ6(w:World):Calls Tryz.prog 78 #[.string ⟨#[115,112,108,105,116]⟩] w fun e w'=>e=.returned (.tuple #[.int .i64 2,.bool true])/\w'=w:=by
 have hs1:=(show Calls Tryz.prog 33 #[.int .i64 1] w fun e w'=>e=.returned (.tuple #[.string ⟨#[98,121,116,101]⟩,.int .i64 65])/\w'=w from aO 1 w)
 have hs2:=(show Calls Tryz.prog 33 #[.int .i64 2] w fun e w'=>e=.returned (.tuple #[.string ⟨#[115,112,108,105,116]⟩,.int .i64 6])/\w'=w from aO 2 w)
 go_enter Tryz.func78,Tryz.ntmps78
 go_wp2
 refine cR 2 (aX ?_)
 go_wp2_with (go_at_call 33;(with_reducible refine(hs1).mono ?_);rintro e w5 ⟨rfl,h5⟩;subst h5)
 refine aX ?_
 go_wp2_with (go_at_call 33;(with_reducible refine(hs2).mono ?_);rintro e w5 ⟨rfl,h5⟩;subst h5)
 go_ret2
 exact⟨rfl,rfl⟩
theorem aJ5(w:World):Calls Tryz.prog 78 #[.string ⟨#[106,117,109,112]⟩] w fun e w'=>e=.returned (.tuple #[.int .i64 3,.bool true])/\w'=w:=by
 have hs1:=(show Calls Tryz.prog 33 #[.int .i64 1] w fun e w'=>e=.returned (.tuple #[.string ⟨#[98,121,116,101]⟩,.int .i64 65])/\w'=w from aO 1 w)
 have hs2:=(show Calls Tryz.prog 33 #[.int .i64 2] w fun e w'=>e=.returned (.tuple #[.string ⟨#[115,112,108,105,116]⟩,.int .i64 6])/\w'=w from aO 2 w)
 have hs3:=(show Calls Tryz.prog 33 #[.int .i64 3] w fun e w'=>e=.returned (.tuple #[.string ⟨#[106,117,109,112]⟩,.int .i64 2])/\w'=w from aO 3 w)
 go_enter Tryz.func78,Tryz.ntmps78
 go_wp2
 refine cR 3 (aX ?_)
 go_wp2_with (go_at_call 33;(with_reducible refine(hs1).mono ?_);rintro e w5 ⟨rfl,h5⟩;subst h5)
 refine aX ?_
 go_wp2_with (go_at_call 33;(with_reducible refine(hs2).mono ?_);rintro e w5 ⟨rfl,h5⟩;subst h5)
 refine aX ?_
 go_wp2_with (go_at_call 33;(with_reducible refine(hs3).mono ?_);rintro e w5 ⟨rfl,h5⟩;subst h5)
 go_ret2
 exact⟨rfl,rfl⟩
theorem aF7(w:World):Calls Tryz.prog 78 #[.string ⟨#[109,97,116,99,104]⟩] w fun e w'=>e=.returned (.tuple #[.int .i64 11,.bool true])/\w'=w:=by
 have hs1:=(show Calls Tryz.prog 33 #[.int .i64 1] w fun e w'=>e=.returned (.tuple #[.string ⟨#[98,121,116,101]⟩,.int .i64 65])/\w'=w from aO 1 w)
 have hs2:=(show Calls Tryz.prog 33 #[.int .i64 2] w fun e w'=>e=.returned (.tuple #[.string ⟨#[115,112,108,105,116]⟩,.int .i64 6])/\w'=w from aO 2 w)
 have hs3:=(show Calls Tryz.prog 33 #[.int .i64 3] w fun e w'=>e=.returned (.tuple #[.string ⟨#[106,117,109,112]⟩,.int .i64 2])/\w'=w from aO 3 w)
 have hs4:=(show Calls Tryz.prog 33 #[.int .i64 4] w fun e w'=>e=.returned (.tuple #[.string ⟨#[98,101,103,105,110]⟩,.int .i64 64])/\w'=w from aO 4 w)
 have hs5:=(show Calls Tryz.prog 33 #[.int .i64 5] w fun e w'=>e=.returned (.tuple #[.string ⟨#[101,110,100]⟩,.int .i64 64])/\w'=w from aO 5 w)
 have hs6:=(show Calls Tryz.prog 33 #[.int .i64 6] w fun e w'=>e=.returned (.tuple #[.string ⟨#[111,112,101,110]⟩,.int .i64 72])/\w'=w from aO 6 w)
 have hs7:=(show Calls Tryz.prog 33 #[.int .i64 7] w fun e w'=>e=.returned (.tuple #[.string ⟨#[99,108,111,115,101]⟩,.int .i64 72])/\w'=w from aO 7 w)
 have hs8:=(show Calls Tryz.prog 33 #[.int .i64 8] w fun e w'=>e=.returned (.tuple #[.string ⟨#[98,97,99,107]⟩,.int .i64 72])/\w'=w from aO 8 w)
 have hs9:=(show Calls Tryz.prog 33 #[.int .i64 9] w fun e w'=>e=.returned (.tuple #[.string ⟨#[122,101,114,111]⟩,.int .i64 80])/\w'=w from aO 9 w)
 have hs10:=(show Calls Tryz.prog 33 #[.int .i64 10] w fun e w'=>e=.returned (.tuple #[.string ⟨#[116,117,114,110]⟩,.int .i64 54])/\w'=w from aO 10 w)
 have hs11:=(show Calls Tryz.prog 33 #[.int .i64 11] w fun e w'=>e=.returned (.tuple #[.string ⟨#[109,97,116,99,104]⟩,.int .i64 0])/\w'=w from aO 11 w)
 go_enter Tryz.func78,Tryz.ntmps78
 go_wp2
 refine cR 11 (aX ?_)
 go_wp2_with (go_at_call 33;(with_reducible refine(hs1).mono ?_);rintro e w5 ⟨rfl,h5⟩;subst h5)
 refine aX ?_
 go_wp2_with (go_at_call 33;(with_reducible refine(hs2).mono ?_);rintro e w5 ⟨rfl,h5⟩;subst h5)
 refine aX ?_
 go_wp2_with (go_at_call 33;(with_reducible refine(hs3).mono ?_);rintro e w5 ⟨rfl,h5⟩;subst h5)
 refine aX ?_
 go_wp2_with (go_at_call 33;(with_reducible refine(hs4).mono ?_);rintro e w5 ⟨rfl,h5⟩;subst h5)
 refine aX ?_
 go_wp2_with (go_at_call 33;(with_reducible refine(hs5).mono ?_);rintro e w5 ⟨rfl,h5⟩;subst h5)
 refine aX ?_
 go_wp2_with (go_at_call 33;(with_reducible refine(hs6).mono ?_);rintro e w5 ⟨rfl,h5⟩;subst h5)
 refine aX ?_
 go_wp2_with (go_at_call 33;(with_reducible refine(hs7).mono ?_);rintro e w5 ⟨rfl,h5⟩;subst h5)
 refine aX ?_
 go_wp2_with (go_at_call 33;(with_reducible refine(hs8).mono ?_);rintro e w5 ⟨rfl,h5⟩;subst h5)
 refine aX ?_
 go_wp2_with (go_at_call 33;(with_reducible refine(hs9).mono ?_);rintro e w5 ⟨rfl,h5⟩;subst h5)
 refine aX ?_
 go_wp2_with (go_at_call 33;(with_reducible refine(hs10).mono ?_);rintro e w5 ⟨rfl,h5⟩;subst h5)
 refine aX ?_
 go_wp2_with (go_at_call 33;(with_reducible refine(hs11).mono ?_);rintro e w5 ⟨rfl,h5⟩;subst h5)
 go_ret2
 exact⟨rfl,rfl⟩
end
section
attribute [local go_sem] Oper.semAt_some
def InP(w:World)(b:Nat)(a:Int)(i:Ins)(e:Ending)(w':World):Prop:=e=.returned (.agg #[.int .i64 i.op,.int .i64 i.x,.int .i64 i.y,.int .i64 i.n,.int .i64 i.mn,.int .i64 i.mx,.int .u64 (aB i.s 0),.int .u64 (aB i.s 1),.int .u64 (aB i.s 2),.int .u64 (aB i.s 3)])/\LB w' b [] false a/\Fr (At1 b) w w'
theorem fP{w w':World}{b g:Nat}(h:Fr (At1 b) w w')(hg:w.heap.size<=g)(j:Nat)(v:Value):Fr (At1 b) w (w'.setCell ⟨g,j,none⟩ v):=Fr.setNew h (p:=⟨g,j,none⟩) hg v
theorem bZ{w:World}{k g:Nat}{o:Obj}(h:w.heap[k]?=some o)(hk:k≠g)(j:Nat)(v:Value):(w.setCell ⟨g,j,none⟩ v).heap[k]?=some o:=(Below.heap_setCell _ _ _ _ hk).trans h
theorem fU(W:World)(g:Nat)(a0 a1 a2 a3 a4 a5 a6 a7 a8 a9:Value):Fr (At1 g) W ((((((((((W.setCell ⟨g,0,none⟩ a0).setCell ⟨g,1,none⟩ a1).setCell ⟨g,2,none⟩ a2).setCell ⟨g,3,none⟩ a3).setCell ⟨g,4,none⟩ a4).setCell ⟨g,5,none⟩ a5).setCell ⟨g,6,none⟩ a6).setCell ⟨g,7,none⟩ a7).setCell ⟨g,8,none⟩ a8).setCell ⟨g,9,none⟩ a9):=(Fr.setCell (S:=At1 g) (Fr.setCell (S:=At1 g) (Fr.setCell (S:=At1 g) (Fr.setCell (S:=At1 g) (Fr.setCell (S:=At1 g) (Fr.setCell (S:=At1 g) (Fr.setCell (S:=At1 g) (Fr.setCell (S:=At1 g) (Fr.setCell (S:=At1 g) (Fr.setCell (S:=At1 g) (Fr.refl _ _) (p:=⟨g,0,none⟩) rfl _) (p:=⟨g,1,none⟩) rfl _) (p:=⟨g,2,none⟩) rfl _) (p:=⟨g,3,none⟩) rfl _) (p:=⟨g,4,none⟩) rfl _) (p:=⟨g,5,none⟩) rfl _) (p:=⟨g,6,none⟩) rfl _) (p:=⟨g,7,none⟩) rfl _) (p:=⟨g,8,none⟩) rfl _) (p:=⟨g,9,none⟩) rfl _)
theorem fF{w W:World}{b g:Nat}(h:Fr (At1 b) w W)(hg:w.heap.size<=g)(a0 a1 a2 a3 a4 a5 a6 a7 a8 a9:Value):Fr (At1 b) w ((((((((((W.setCell ⟨g,0,none⟩ a0).setCell ⟨g,1,none⟩ a1).setCell ⟨g,2,none⟩ a2).setCell ⟨g,3,none⟩ a3).setCell ⟨g,4,none⟩ a4).setCell ⟨g,5,none⟩ a5).setCell ⟨g,6,none⟩ a6).setCell ⟨g,7,none⟩ a7).setCell ⟨g,8,none⟩ a8).setCell ⟨g,9,none⟩ a9):=(Fr.setNew (Fr.setNew (Fr.setNew (Fr.setNew (Fr.setNew (Fr.setNew (Fr.setNew (Fr.setNew (Fr.setNew (Fr.setNew h (p:=⟨g,0,none⟩) hg _) (p:=⟨g,1,none⟩) hg _) (p:=⟨g,2,none⟩) hg _) (p:=⟨g,3,none⟩) hg _) (p:=⟨g,4,none⟩) hg _) (p:=⟨g,5,none⟩) hg _) (p:=⟨g,6,none⟩) hg _) (p:=⟨g,7,none⟩) hg _) (p:=⟨g,8,none⟩) hg _) (p:=⟨g,9,none⟩) hg _)
theorem aB3{w:World}{b:Nat}{a:Int}(hT:z1_Tab w)(h:LB w b [109,97,116,99,104] true a)(h2:2<b):Calls Tryz.prog 61 #[.pointer (some ⟨b,0,none⟩)] w (InP w b a ⟨11,0,0,0,0,0,0#256⟩):=by
 have lb:=aC h
 have H2:=aD h2
 have B1:Hid (wBl w (w.alloc (.cells #[.int .i64 0,.int .i64 0,.int .i64 0,.int .i64 0,.int .i64 0,.int .i64 0,.int .u64 0,.int .u64 0,.int .u64 0,.int .u64 0] 54))):=bz9
 have X1:Hid ((w.alloc (.cells #[.int .i64 0,.int .i64 0,.int .i64 0,.int .i64 0,.int .i64 0,.int .i64 0,.int .u64 0,.int .u64 0,.int .u64 0,.int .u64 0] 54)).heap[w.heap.size]?=some (.cells #[.int .i64 0,.int .i64 0,.int .i64 0,.int .i64 0,.int .i64 0,.int .i64 0,.int .u64 0,.int .u64 0,.int .u64 0,.int .u64 0] 54 (0,0))):=aE w _
 have HW:=aD (fO (h.kept B1.o) (by decide))
 rw [show cL 32 [109,97,116,99,104]=([109,97,116,99,104],[],false) by decide] at HW
 have HW2:Hid (Calls Tryz.prog 75 #[.pointer (some ⟨b,0,none⟩)] (w.alloc (.cells #[.int .i64 0,.int .i64 0,.int .i64 0,.int .i64 0,.int .i64 0,.int .i64 0,.int .u64 0,.int .u64 0,.int .u64 0,.int .u64 0] 54)) fun e w'=>e=.returned (.string ⟨#[109,97,116,99,104]⟩)/\LB w' b [] false a/\Fr (At1 b) (w.alloc (.cells #[.int .i64 0,.int .i64 0,.int .i64 0,.int .i64 0,.int .i64 0,.int .i64 0,.int .u64 0,.int .u64 0,.int .u64 0,.int .u64 0] 54)) w'):=HW
 have HO:=aF7
 have hs:=fun (W:World)=>(show Calls Tryz.prog 33 #[.int .i64 11] W fun e w'=>e=.returned (.tuple #[.string ⟨#[109,97,116,99,104]⟩,.int .i64 0])/\w'=W from aO 11 W)
 have q24:hsT 0 24=false:=by decide
 have q32:hsT 0 32=false:=by decide
 have q2:hsT 0 2=false:=by decide
 have q4:hsT 0 4=false:=by decide
 have q1:hsT 0 1=false:=by decide
 have HT:=aD hT
 clear hT h HW
 go_enter Tryz.func61,Tryz.ntmps61
 go_upto_region 1 with fail
 generalize (w.alloc (.cells #[.int .i64 0,.int .i64 0,.int .i64 0,.int .i64 0,.int .i64 0,.int .i64 0,.int .u64 0,.int .u64 0,.int .u64 0,.int .u64 0] 54))=w1 at B1 X1 HW2 ⊢
 have l1:=aC X1.o
 go_upto_region 6 with first
  |(go_at_call 75;(with_reducible refine(HW2.o).mono ?_);rintro e w2 ⟨rfl,h21,h22⟩;have L2:=aD h21;have F2:=aD h22;have X2:=aD ((h22.block _ l1 (by show ¬ (w.heap.size=b);omega)).trans X1.o);have FF:=aD ((Fr.of_below (S:=At1 b) B1.o).trans h22);clear h21 h22)
  |(go_at_call 78;(with_reducible refine(HO _).mono ?_);rintro e w3 ⟨rfl,h3⟩;rw [h3];clear h3 w3)
  |(go_at_call 33;(with_reducible refine(hs _).mono ?_);rintro e w3 ⟨rfl,h3⟩;rw [h3];clear h3 w3)
 have BA:wBl w2 (w2.alloc (.cells #[.int .i64 11,.int .i64 0,.int .i64 0,.int .i64 0,.int .i64 0,.int .i64 0,.int .u64 0,.int .u64 0,.int .u64 0,.int .u64 0] 54)):=bz9
 have X3:=aD ((BA.block _ (aC X2.o)).trans X2.o)
 have Y3:Hid ((w2.alloc (.cells #[.int .i64 11,.int .i64 0,.int .i64 0,.int .i64 0,.int .i64 0,.int .i64 0,.int .u64 0,.int .u64 0,.int .u64 0,.int .u64 0] 54)).heap[w2.heap.size]?=some (.cells #[.int .i64 11,.int .i64 0,.int .i64 0,.int .i64 0,.int .i64 0,.int .i64 0,.int .u64 0,.int .u64 0,.int .u64 0,.int .u64 0] 54 (0,0))):=aE w2 _
 have L3:=aD (L2.o.kept BA)
 have F3:=aD (FF.o.then BA)
 have s1:=FF.o.size
 have s2:=aC X2.o
 clear BA
 generalize (w2.alloc (.cells #[.int .i64 11,.int .i64 0,.int .i64 0,.int .i64 0,.int .i64 0,.int .i64 0,.int .u64 0,.int .u64 0,.int .u64 0,.int .u64 0] 54))=w3 at X3 Y3 L3 F3 ⊢
 have HE:=aD (iM L3.o)
 have y0:=aA Y3.o (i:=0) rfl
 have x0:=aA X3.o (i:=0) rfl
 have f0:=aG X3.o 0
 have y1:=aA Y3.o (i:=1) rfl
 have x1:=aA X3.o (i:=1) rfl
 have f1:=aG X3.o 1
 have y2:=aA Y3.o (i:=2) rfl
 have x2:=aA X3.o (i:=2) rfl
 have f2:=aG X3.o 2
 have y3:=aA Y3.o (i:=3) rfl
 have x3:=aA X3.o (i:=3) rfl
 have f3:=aG X3.o 3
 have y4:=aA Y3.o (i:=4) rfl
 have x4:=aA X3.o (i:=4) rfl
 have f4:=aG X3.o 4
 have y5:=aA Y3.o (i:=5) rfl
 have x5:=aA X3.o (i:=5) rfl
 have f5:=aG X3.o 5
 have y6:=aA Y3.o (i:=6) rfl
 have x6:=aA X3.o (i:=6) rfl
 have f6:=aG X3.o 6
 have y7:=aA Y3.o (i:=7) rfl
 have x7:=aA X3.o (i:=7) rfl
 have f7:=aG X3.o 7
 have y8:=aA Y3.o (i:=8) rfl
 have x8:=aA X3.o (i:=8) rfl
 have f8:=aG X3.o 8
 have y9:=aA Y3.o (i:=9) rfl
 have x9:=aA X3.o (i:=9) rfl
 have f9:=aG X3.o 9
 go_wp2_with first
  |(go_at_call 34;(with_reducible refine(aU _ _ _).mono ?_);rintro e w7 ⟨rfl,h7⟩;rw [h7];clear h7 w7)
  |(go_at_call 77;(with_reducible refine(HE.o).mono ?_);rintro e w7 ⟨rfl,h7⟩;rw [h7];clear h7 w7)
 refine bodyPost_ret (v:=.agg #[.int .i64 11,.int .i64 0,.int .i64 0,.int .i64 0,.int .i64 0,.int .i64 0,.int .u64 0,.int .u64 0,.int .u64 0,.int .u64 0]) (by simp [results,Tryz.results61,go_sem,x0,x1,x2,x3,x4,x5,x6,x7,x8,x9]) rfl ⟨?_,?_,?_⟩
 ·simp [bA]
 ·exact Eq.trans (Fr.block (S:=At1 w.heap.size) (fU _ _ _ _ _ _ _ _ _ _ _ _) b (aC L3.o) (by show ¬ (b=w.heap.size);omega)) L3.o
 ·exact fF F3.o lz9 _ _ _ _ _ _ _ _ _ _
theorem aG5{w:World}{b:Nat}{a:Int}(hT:z1_Tab w)(h:LB w b [106,117,109,112,32,48] true a)(h2:2<b):Calls Tryz.prog 61 #[.pointer (some ⟨b,0,none⟩)] w (InP w b a ⟨3,0,0,0,0,0,0#256⟩):=by
 have lb:=aC h
 have H2:=aD h2
 have B1:Hid (wBl w (w.alloc (.cells #[.int .i64 0,.int .i64 0,.int .i64 0,.int .i64 0,.int .i64 0,.int .i64 0,.int .u64 0,.int .u64 0,.int .u64 0,.int .u64 0] 54))):=bz9
 have X1:Hid ((w.alloc (.cells #[.int .i64 0,.int .i64 0,.int .i64 0,.int .i64 0,.int .i64 0,.int .i64 0,.int .u64 0,.int .u64 0,.int .u64 0,.int .u64 0] 54)).heap[w.heap.size]?=some (.cells #[.int .i64 0,.int .i64 0,.int .i64 0,.int .i64 0,.int .i64 0,.int .i64 0,.int .u64 0,.int .u64 0,.int .u64 0,.int .u64 0] 54 (0,0))):=aE w _
 have HW:=aD (fO (h.kept B1.o) (by decide))
 rw [show cL 32 [106,117,109,112,32,48]=([106,117,109,112],[48],true) by decide] at HW
 have HW2:Hid (Calls Tryz.prog 75 #[.pointer (some ⟨b,0,none⟩)] (w.alloc (.cells #[.int .i64 0,.int .i64 0,.int .i64 0,.int .i64 0,.int .i64 0,.int .i64 0,.int .u64 0,.int .u64 0,.int .u64 0,.int .u64 0] 54)) fun e w'=>e=.returned (.string ⟨#[106,117,109,112]⟩)/\LB w' b [48] true a/\Fr (At1 b) (w.alloc (.cells #[.int .i64 0,.int .i64 0,.int .i64 0,.int .i64 0,.int .i64 0,.int .i64 0,.int .u64 0,.int .u64 0,.int .u64 0,.int .u64 0] 54)) w'):=HW
 have HO:=aJ5
 have hs:=fun (W:World)=>(show Calls Tryz.prog 33 #[.int .i64 3] W fun e w'=>e=.returned (.tuple #[.string ⟨#[106,117,109,112]⟩,.int .i64 2])/\w'=W from aO 3 W)
 have q24:hsT 2 24=false:=by decide
 have q32:hsT 2 32=false:=by decide
 have q2:hsT 2 2=true:=by decide
 have q4:hsT 2 4=false:=by decide
 have q1:hsT 2 1=false:=by decide
 have HT:=aD hT
 clear hT h HW
 go_enter Tryz.func61,Tryz.ntmps61
 go_upto_region 1 with fail
 generalize (w.alloc (.cells #[.int .i64 0,.int .i64 0,.int .i64 0,.int .i64 0,.int .i64 0,.int .i64 0,.int .u64 0,.int .u64 0,.int .u64 0,.int .u64 0] 54))=w1 at B1 X1 HW2 ⊢
 have l1:=aC X1.o
 go_upto_region 6 with first
  |(go_at_call 75;(with_reducible refine(HW2.o).mono ?_);rintro e w2 ⟨rfl,h21,h22⟩;have L2:=aD h21;have F2:=aD h22;have X2:=aD ((h22.block _ l1 (by show ¬ (w.heap.size=b);omega)).trans X1.o);have FF:=aD ((Fr.of_below (S:=At1 b) B1.o).trans h22);clear h21 h22)
  |(go_at_call 78;(with_reducible refine(HO _).mono ?_);rintro e w3 ⟨rfl,h3⟩;rw [h3];clear h3 w3)
  |(go_at_call 33;(with_reducible refine(hs _).mono ?_);rintro e w3 ⟨rfl,h3⟩;rw [h3];clear h3 w3)
 have BA:wBl w2 (w2.alloc (.cells #[.int .i64 3,.int .i64 0,.int .i64 0,.int .i64 0,.int .i64 0,.int .i64 0,.int .u64 0,.int .u64 0,.int .u64 0,.int .u64 0] 54)):=bz9
 have X3:=aD ((BA.block _ (aC X2.o)).trans X2.o)
 have Y3:Hid ((w2.alloc (.cells #[.int .i64 3,.int .i64 0,.int .i64 0,.int .i64 0,.int .i64 0,.int .i64 0,.int .u64 0,.int .u64 0,.int .u64 0,.int .u64 0] 54)).heap[w2.heap.size]?=some (.cells #[.int .i64 3,.int .i64 0,.int .i64 0,.int .i64 0,.int .i64 0,.int .i64 0,.int .u64 0,.int .u64 0,.int .u64 0,.int .u64 0] 54 (0,0))):=aE w2 _
 have L3:=aD (L2.o.kept BA)
 have F3:=aD (FF.o.then BA)
 have s1:=FF.o.size
 have s2:=aC X2.o
 clear BA
 generalize (w2.alloc (.cells #[.int .i64 3,.int .i64 0,.int .i64 0,.int .i64 0,.int .i64 0,.int .i64 0,.int .u64 0,.int .u64 0,.int .u64 0,.int .u64 0] 54))=w3 at X3 Y3 L3 F3 ⊢
 have HN3:=aD (fA (d:=[48]) (r:=[]) (f:=false) L3.o (by decide) (by decide) 0 (by decide) (by decide +kernel) (by decide +kernel) (by decide))
 go_upto_region 13 with first
  |(go_at_call 34;(with_reducible refine(aU _ _ _).mono ?_);rintro e w7 ⟨rfl,h7⟩;rw [h7];clear h7 w7)
  |(go_at_call 76;(with_reducible refine(HN3.o).mono ?_);rintro e v4 ⟨rfl,h1,h3⟩;have L3a:=aD h1;have X3a:=aD ((h3.block _ (aC X3.o) (by show ¬ (w.heap.size=b);omega)).trans X3.o);have Y3a:=aD ((h3.block _ (aC Y3.o) (by show ¬ (w2.heap.size=b);omega)).trans Y3.o);have F3a:=aD (F3.o.trans h3);have c1:=aA Y3a.o (i:=1) rfl;have f1:=aG Y3a.o 1;clear h1 h3)
 have F4:Hid (Fr (At1 b) w (v4.setCell ⟨w2.heap.size,1,none⟩ (.int .i64 0))):=(fP F3a.o (by omega) 1 _)
 have Y4:Hid ((v4.setCell ⟨w2.heap.size,1,none⟩ (.int .i64 0)).heap[w2.heap.size]?=some (.cells #[.int .i64 3,.int .i64 0,.int .i64 0,.int .i64 0,.int .i64 0,.int .i64 0,.int .u64 0,.int .u64 0,.int .u64 0,.int .u64 0] 54 (0,0))):=(aI Y3a.o 1 _)
 have X4:Hid ((v4.setCell ⟨w2.heap.size,1,none⟩ (.int .i64 0)).heap[w.heap.size]?=some (.cells #[.int .i64 0,.int .i64 0,.int .i64 0,.int .i64 0,.int .i64 0,.int .i64 0,.int .u64 0,.int .u64 0,.int .u64 0,.int .u64 0] 54 (0,0))):=(bZ X3a.o (by omega) 1 _)
 have L4:Hid (LB (v4.setCell ⟨w2.heap.size,1,none⟩ (.int .i64 0)) b [] false a):=(bZ L3a.o (by omega) 1 _)
 clear c1 f1
 generalize (v4.setCell ⟨w2.heap.size,1,none⟩ (.int .i64 0))=w4 at F4 Y4 X4 L4 ⊢
 have HE:=aD (iM L4.o)
 have y0:=aA Y4.o (i:=0) rfl
 have x0:=aA X4.o (i:=0) rfl
 have f0:=aG X4.o 0
 have y1:=aA Y4.o (i:=1) rfl
 have x1:=aA X4.o (i:=1) rfl
 have f1:=aG X4.o 1
 have y2:=aA Y4.o (i:=2) rfl
 have x2:=aA X4.o (i:=2) rfl
 have f2:=aG X4.o 2
 have y3:=aA Y4.o (i:=3) rfl
 have x3:=aA X4.o (i:=3) rfl
 have f3:=aG X4.o 3
 have y4:=aA Y4.o (i:=4) rfl
 have x4:=aA X4.o (i:=4) rfl
 have f4:=aG X4.o 4
 have y5:=aA Y4.o (i:=5) rfl
 have x5:=aA X4.o (i:=5) rfl
 have f5:=aG X4.o 5
 have y6:=aA Y4.o (i:=6) rfl
 have x6:=aA X4.o (i:=6) rfl
 have f6:=aG X4.o 6
 have y7:=aA Y4.o (i:=7) rfl
 have x7:=aA X4.o (i:=7) rfl
 have f7:=aG X4.o 7
 have y8:=aA Y4.o (i:=8) rfl
 have x8:=aA X4.o (i:=8) rfl
 have f8:=aG X4.o 8
 have y9:=aA Y4.o (i:=9) rfl
 have x9:=aA X4.o (i:=9) rfl
 have f9:=aG X4.o 9
 go_wp2_with first
  |(go_at_call 34;(with_reducible refine(aU _ _ _).mono ?_);rintro e w7 ⟨rfl,h7⟩;rw [h7];clear h7 w7)
  |(go_at_call 77;(with_reducible refine(HE.o).mono ?_);rintro e w7 ⟨rfl,h7⟩;rw [h7];clear h7 w7)
 refine bodyPost_ret (v:=.agg #[.int .i64 3,.int .i64 0,.int .i64 0,.int .i64 0,.int .i64 0,.int .i64 0,.int .u64 0,.int .u64 0,.int .u64 0,.int .u64 0]) (by simp [results,Tryz.results61,go_sem,x0,x1,x2,x3,x4,x5,x6,x7,x8,x9]) rfl ⟨?_,?_,?_⟩
 ·simp [bA]
 ·exact Eq.trans (Fr.block (S:=At1 w.heap.size) (fU _ _ _ _ _ _ _ _ _ _ _ _) b (aC L4.o) (by show ¬ (b=w.heap.size);omega)) L4.o
 ·exact fF F4.o lz9 _ _ _ _ _ _ _ _ _ _
theorem aG6{w:World}{b:Nat}{a:Int}(hT:z1_Tab w)(h:LB w b [115,112,108,105,116,32,49,32,51] true a)(h2:2<b):Calls Tryz.prog 61 #[.pointer (some ⟨b,0,none⟩)] w (InP w b a ⟨2,1,3,0,0,0,0#256⟩):=by
 have lb:=aC h
 have H2:=aD h2
 have B1:Hid (wBl w (w.alloc (.cells #[.int .i64 0,.int .i64 0,.int .i64 0,.int .i64 0,.int .i64 0,.int .i64 0,.int .u64 0,.int .u64 0,.int .u64 0,.int .u64 0] 54))):=bz9
 have X1:Hid ((w.alloc (.cells #[.int .i64 0,.int .i64 0,.int .i64 0,.int .i64 0,.int .i64 0,.int .i64 0,.int .u64 0,.int .u64 0,.int .u64 0,.int .u64 0] 54)).heap[w.heap.size]?=some (.cells #[.int .i64 0,.int .i64 0,.int .i64 0,.int .i64 0,.int .i64 0,.int .i64 0,.int .u64 0,.int .u64 0,.int .u64 0,.int .u64 0] 54 (0,0))):=aE w _
 have HW:=aD (fO (h.kept B1.o) (by decide))
 rw [show cL 32 [115,112,108,105,116,32,49,32,51]=([115,112,108,105,116],[49,32,51],true) by decide] at HW
 have HW2:Hid (Calls Tryz.prog 75 #[.pointer (some ⟨b,0,none⟩)] (w.alloc (.cells #[.int .i64 0,.int .i64 0,.int .i64 0,.int .i64 0,.int .i64 0,.int .i64 0,.int .u64 0,.int .u64 0,.int .u64 0,.int .u64 0] 54)) fun e w'=>e=.returned (.string ⟨#[115,112,108,105,116]⟩)/\LB w' b [49,32,51] true a/\Fr (At1 b) (w.alloc (.cells #[.int .i64 0,.int .i64 0,.int .i64 0,.int .i64 0,.int .i64 0,.int .i64 0,.int .u64 0,.int .u64 0,.int .u64 0,.int .u64 0] 54)) w'):=HW
 have HO:=aJ6
 have hs:=fun (W:World)=>(show Calls Tryz.prog 33 #[.int .i64 2] W fun e w'=>e=.returned (.tuple #[.string ⟨#[115,112,108,105,116]⟩,.int .i64 6])/\w'=W from aO 2 W)
 have q24:hsT 6 24=false:=by decide
 have q32:hsT 6 32=false:=by decide
 have q2:hsT 6 2=true:=by decide
 have q4:hsT 6 4=true:=by decide
 have q1:hsT 6 1=false:=by decide
 have HT:=aD hT
 clear hT h HW
 go_enter Tryz.func61,Tryz.ntmps61
 go_upto_region 1 with fail
 generalize (w.alloc (.cells #[.int .i64 0,.int .i64 0,.int .i64 0,.int .i64 0,.int .i64 0,.int .i64 0,.int .u64 0,.int .u64 0,.int .u64 0,.int .u64 0] 54))=w1 at B1 X1 HW2 ⊢
 have l1:=aC X1.o
 go_upto_region 6 with first
  |(go_at_call 75;(with_reducible refine(HW2.o).mono ?_);rintro e w2 ⟨rfl,h21,h22⟩;have L2:=aD h21;have F2:=aD h22;have X2:=aD ((h22.block _ l1 (by show ¬ (w.heap.size=b);omega)).trans X1.o);have FF:=aD ((Fr.of_below (S:=At1 b) B1.o).trans h22);clear h21 h22)
  |(go_at_call 78;(with_reducible refine(HO _).mono ?_);rintro e w3 ⟨rfl,h3⟩;rw [h3];clear h3 w3)
  |(go_at_call 33;(with_reducible refine(hs _).mono ?_);rintro e w3 ⟨rfl,h3⟩;rw [h3];clear h3 w3)
 have BA:wBl w2 (w2.alloc (.cells #[.int .i64 2,.int .i64 0,.int .i64 0,.int .i64 0,.int .i64 0,.int .i64 0,.int .u64 0,.int .u64 0,.int .u64 0,.int .u64 0] 54)):=bz9
 have X3:=aD ((BA.block _ (aC X2.o)).trans X2.o)
 have Y3:Hid ((w2.alloc (.cells #[.int .i64 2,.int .i64 0,.int .i64 0,.int .i64 0,.int .i64 0,.int .i64 0,.int .u64 0,.int .u64 0,.int .u64 0,.int .u64 0] 54)).heap[w2.heap.size]?=some (.cells #[.int .i64 2,.int .i64 0,.int .i64 0,.int .i64 0,.int .i64 0,.int .i64 0,.int .u64 0,.int .u64 0,.int .u64 0,.int .u64 0] 54 (0,0))):=aE w2 _
 have L3:=aD (L2.o.kept BA)
 have F3:=aD (FF.o.then BA)
 have s1:=FF.o.size
 have s2:=aC X2.o
 clear BA
 generalize (w2.alloc (.cells #[.int .i64 2,.int .i64 0,.int .i64 0,.int .i64 0,.int .i64 0,.int .i64 0,.int .u64 0,.int .u64 0,.int .u64 0,.int .u64 0] 54))=w3 at X3 Y3 L3 F3 ⊢
 have HN3:=aD (fA (d:=[49]) (r:=[51]) (f:=true) L3.o (by decide) (by decide) 1 (by decide) (by decide +kernel) (by decide +kernel) (by decide))
 go_upto_region 13 with first
  |(go_at_call 34;(with_reducible refine(aU _ _ _).mono ?_);rintro e w7 ⟨rfl,h7⟩;rw [h7];clear h7 w7)
  |(go_at_call 76;(with_reducible refine(HN3.o).mono ?_);rintro e v4 ⟨rfl,h1,h3⟩;have L3a:=aD h1;have X3a:=aD ((h3.block _ (aC X3.o) (by show ¬ (w.heap.size=b);omega)).trans X3.o);have Y3a:=aD ((h3.block _ (aC Y3.o) (by show ¬ (w2.heap.size=b);omega)).trans Y3.o);have F3a:=aD (F3.o.trans h3);have c1:=aA Y3a.o (i:=1) rfl;have f1:=aG Y3a.o 1;clear h1 h3)
 have F4:Hid (Fr (At1 b) w (v4.setCell ⟨w2.heap.size,1,none⟩ (.int .i64 1))):=(fP F3a.o (by omega) 1 _)
 have Y4:Hid ((v4.setCell ⟨w2.heap.size,1,none⟩ (.int .i64 1)).heap[w2.heap.size]?=some (.cells #[.int .i64 2,.int .i64 1,.int .i64 0,.int .i64 0,.int .i64 0,.int .i64 0,.int .u64 0,.int .u64 0,.int .u64 0,.int .u64 0] 54 (0,0))):=(aI Y3a.o 1 _)
 have X4:Hid ((v4.setCell ⟨w2.heap.size,1,none⟩ (.int .i64 1)).heap[w.heap.size]?=some (.cells #[.int .i64 0,.int .i64 0,.int .i64 0,.int .i64 0,.int .i64 0,.int .i64 0,.int .u64 0,.int .u64 0,.int .u64 0,.int .u64 0] 54 (0,0))):=(bZ X3a.o (by omega) 1 _)
 have L4:Hid (LB (v4.setCell ⟨w2.heap.size,1,none⟩ (.int .i64 1)) b [51] true a):=(bZ L3a.o (by omega) 1 _)
 clear c1 f1
 generalize (v4.setCell ⟨w2.heap.size,1,none⟩ (.int .i64 1))=w4 at F4 Y4 X4 L4 ⊢
 have HN4:=aD (fA (d:=[51]) (r:=[]) (f:=false) L4.o (by decide) (by decide) 3 (by decide) (by decide +kernel) (by decide +kernel) (by decide))
 go_upto_region 15 with first
  |(go_at_call 34;(with_reducible refine(aU _ _ _).mono ?_);rintro e w7 ⟨rfl,h7⟩;rw [h7];clear h7 w7)
  |(go_at_call 76;(with_reducible refine(HN4.o).mono ?_);rintro e v5 ⟨rfl,h1,h3⟩;have L4a:=aD h1;have X4a:=aD ((h3.block _ (aC X4.o) (by show ¬ (w.heap.size=b);omega)).trans X4.o);have Y4a:=aD ((h3.block _ (aC Y4.o) (by show ¬ (w2.heap.size=b);omega)).trans Y4.o);have F4a:=aD (F4.o.trans h3);have c2:=aA Y4a.o (i:=2) rfl;have f2:=aG Y4a.o 2;clear h1 h3)
 have F5:Hid (Fr (At1 b) w (v5.setCell ⟨w2.heap.size,2,none⟩ (.int .i64 3))):=(fP F4a.o (by omega) 2 _)
 have Y5:Hid ((v5.setCell ⟨w2.heap.size,2,none⟩ (.int .i64 3)).heap[w2.heap.size]?=some (.cells #[.int .i64 2,.int .i64 1,.int .i64 3,.int .i64 0,.int .i64 0,.int .i64 0,.int .u64 0,.int .u64 0,.int .u64 0,.int .u64 0] 54 (0,0))):=(aI Y4a.o 2 _)
 have X5:Hid ((v5.setCell ⟨w2.heap.size,2,none⟩ (.int .i64 3)).heap[w.heap.size]?=some (.cells #[.int .i64 0,.int .i64 0,.int .i64 0,.int .i64 0,.int .i64 0,.int .i64 0,.int .u64 0,.int .u64 0,.int .u64 0,.int .u64 0] 54 (0,0))):=(bZ X4a.o (by omega) 2 _)
 have L5:Hid (LB (v5.setCell ⟨w2.heap.size,2,none⟩ (.int .i64 3)) b [] false a):=(bZ L4a.o (by omega) 2 _)
 clear c2 f2
 generalize (v5.setCell ⟨w2.heap.size,2,none⟩ (.int .i64 3))=w5 at F5 Y5 X5 L5 ⊢
 have HE:=aD (iM L5.o)
 have y0:=aA Y5.o (i:=0) rfl
 have x0:=aA X5.o (i:=0) rfl
 have f0:=aG X5.o 0
 have y1:=aA Y5.o (i:=1) rfl
 have x1:=aA X5.o (i:=1) rfl
 have f1:=aG X5.o 1
 have y2:=aA Y5.o (i:=2) rfl
 have x2:=aA X5.o (i:=2) rfl
 have f2:=aG X5.o 2
 have y3:=aA Y5.o (i:=3) rfl
 have x3:=aA X5.o (i:=3) rfl
 have f3:=aG X5.o 3
 have y4:=aA Y5.o (i:=4) rfl
 have x4:=aA X5.o (i:=4) rfl
 have f4:=aG X5.o 4
 have y5:=aA Y5.o (i:=5) rfl
 have x5:=aA X5.o (i:=5) rfl
 have f5:=aG X5.o 5
 have y6:=aA Y5.o (i:=6) rfl
 have x6:=aA X5.o (i:=6) rfl
 have f6:=aG X5.o 6
 have y7:=aA Y5.o (i:=7) rfl
 have x7:=aA X5.o (i:=7) rfl
 have f7:=aG X5.o 7
 have y8:=aA Y5.o (i:=8) rfl
 have x8:=aA X5.o (i:=8) rfl
 have f8:=aG X5.o 8
 have y9:=aA Y5.o (i:=9) rfl
 have x9:=aA X5.o (i:=9) rfl
 have f9:=aG X5.o 9
 go_wp2_with first
  |(go_at_call 34;(with_reducible refine(aU _ _ _).mono ?_);rintro e w7 ⟨rfl,h7⟩;rw [h7];clear h7 w7)
  |(go_at_call 77;(with_reducible refine(HE.o).mono ?_);rintro e w7 ⟨rfl,h7⟩;rw [h7];clear h7 w7)
 refine bodyPost_ret (v:=.agg #[.int .i64 2,.int .i64 1,.int .i64 3,.int .i64 0,.int .i64 0,.int .i64 0,.int .u64 0,.int .u64 0,.int .u64 0,.int .u64 0]) (by simp [results,Tryz.results61,go_sem,x0,x1,x2,x3,x4,x5,x6,x7,x8,x9]) rfl ⟨?_,?_,?_⟩
 ·simp [bA]
 ·exact Eq.trans (Fr.block (S:=At1 w.heap.size) (fU _ _ _ _ _ _ _ _ _ _ _ _) b (aC L5.o) (by show ¬ (b=w.heap.size);omega)) L5.o
 ·exact fF F5.o lz9 _ _ _ _ _ _ _ _ _ _
theorem aG7{w:World}{b:Nat}{a:Int}(hT:z1_Tab w)(h:LB w b [98,121,116,101,32,54,49] true a)(h2:2<b):Calls Tryz.prog 61 #[.pointer (some ⟨b,0,none⟩)] w (InP w b a ⟨1,0,0,0,0,0,aS⟩):=by
 have lb:=aC h
 have H2:=aD h2
 have B1:Hid (wBl w (w.alloc (.cells #[.int .i64 0,.int .i64 0,.int .i64 0,.int .i64 0,.int .i64 0,.int .i64 0,.int .u64 0,.int .u64 0,.int .u64 0,.int .u64 0] 54))):=bz9
 have X1:Hid ((w.alloc (.cells #[.int .i64 0,.int .i64 0,.int .i64 0,.int .i64 0,.int .i64 0,.int .i64 0,.int .u64 0,.int .u64 0,.int .u64 0,.int .u64 0] 54)).heap[w.heap.size]?=some (.cells #[.int .i64 0,.int .i64 0,.int .i64 0,.int .i64 0,.int .i64 0,.int .i64 0,.int .u64 0,.int .u64 0,.int .u64 0,.int .u64 0] 54 (0,0))):=aE w _
 have HW:=aD (fO (h.kept B1.o) (by decide))
 rw [show cL 32 [98,121,116,101,32,54,49]=([98,121,116,101],[54,49],true) by decide] at HW
 have HW2:Hid (Calls Tryz.prog 75 #[.pointer (some ⟨b,0,none⟩)] (w.alloc (.cells #[.int .i64 0,.int .i64 0,.int .i64 0,.int .i64 0,.int .i64 0,.int .i64 0,.int .u64 0,.int .u64 0,.int .u64 0,.int .u64 0] 54)) fun e w'=>e=.returned (.string ⟨#[98,121,116,101]⟩)/\LB w' b [54,49] true a/\Fr (At1 b) (w.alloc (.cells #[.int .i64 0,.int .i64 0,.int .i64 0,.int .i64 0,.int .i64 0,.int .i64 0,.int .u64 0,.int .u64 0,.int .u64 0,.int .u64 0] 54)) w'):=HW
 have HO:=aJ7
 have hs:=fun (W:World)=>(show Calls Tryz.prog 33 #[.int .i64 1] W fun e w'=>e=.returned (.tuple #[.string ⟨#[98,121,116,101]⟩,.int .i64 65])/\w'=W from aO 1 W)
 have q24:hsT 65 24=false:=by decide
 have q32:hsT 65 32=false:=by decide
 have q2:hsT 65 2=false:=by decide
 have q4:hsT 65 4=false:=by decide
 have q1:hsT 65 1=true:=by decide
 have HT:=aD hT
 clear hT h HW
 go_enter Tryz.func61,Tryz.ntmps61
 go_upto_region 1 with fail
 generalize (w.alloc (.cells #[.int .i64 0,.int .i64 0,.int .i64 0,.int .i64 0,.int .i64 0,.int .i64 0,.int .u64 0,.int .u64 0,.int .u64 0,.int .u64 0] 54))=w1 at B1 X1 HW2 ⊢
 have l1:=aC X1.o
 go_upto_region 6 with first
  |(go_at_call 75;(with_reducible refine(HW2.o).mono ?_);rintro e w2 ⟨rfl,h21,h22⟩;have L2:=aD h21;have F2:=aD h22;have X2:=aD ((h22.block _ l1 (by show ¬ (w.heap.size=b);omega)).trans X1.o);have FF:=aD ((Fr.of_below (S:=At1 b) B1.o).trans h22);clear h21 h22)
  |(go_at_call 78;(with_reducible refine(HO _).mono ?_);rintro e w3 ⟨rfl,h3⟩;rw [h3];clear h3 w3)
  |(go_at_call 33;(with_reducible refine(hs _).mono ?_);rintro e w3 ⟨rfl,h3⟩;rw [h3];clear h3 w3)
 have BA:wBl w2 (w2.alloc (.cells #[.int .i64 1,.int .i64 0,.int .i64 0,.int .i64 0,.int .i64 0,.int .i64 0,.int .u64 0,.int .u64 0,.int .u64 0,.int .u64 0] 54)):=bz9
 have X3:=aD ((BA.block _ (aC X2.o)).trans X2.o)
 have Y3:Hid ((w2.alloc (.cells #[.int .i64 1,.int .i64 0,.int .i64 0,.int .i64 0,.int .i64 0,.int .i64 0,.int .u64 0,.int .u64 0,.int .u64 0,.int .u64 0] 54)).heap[w2.heap.size]?=some (.cells #[.int .i64 1,.int .i64 0,.int .i64 0,.int .i64 0,.int .i64 0,.int .i64 0,.int .u64 0,.int .u64 0,.int .u64 0,.int .u64 0] 54 (0,0))):=aE w2 _
 have L3:=aD (L2.o.kept BA)
 have F3:=aD (FF.o.then BA)
 have s1:=FF.o.size
 have s2:=aC X2.o
 clear BA
 generalize (w2.alloc (.cells #[.int .i64 1,.int .i64 0,.int .i64 0,.int .i64 0,.int .i64 0,.int .i64 0,.int .u64 0,.int .u64 0,.int .u64 0,.int .u64 0] 54))=w3 at X3 Y3 L3 F3 ⊢
 have HN3:=aD (aF2 (nG HT.o F3.o h2) L3.o h2)
 unfold SeP at HN3
 go_upto_region 17 with first
  |(go_at_call 34;(with_reducible refine(aU _ _ _).mono ?_);rintro e w7 ⟨rfl,h7⟩;rw [h7];clear h7 w7)
  |(go_at_call 80;(with_reducible refine(HN3.o).mono ?_);rintro e v4 ⟨rfl,h1,h3⟩;have L3a:=aD h1;have X3a:=aD ((h3.block _ (aC X3.o) (by show ¬ (w.heap.size=b);omega)).trans X3.o);have Y3a:=aD ((h3.block _ (aC Y3.o) (by show ¬ (w2.heap.size=b);omega)).trans Y3.o);have F3a:=aD (F3.o.trans h3);have c6:=aA Y3a.o (i:=6) rfl;have f6:=aG Y3a.o 6;have c7:=aA Y3a.o (i:=7) rfl;have f7:=aG Y3a.o 7;have c8:=aA Y3a.o (i:=8) rfl;have f8:=aG Y3a.o 8;have c9:=aA Y3a.o (i:=9) rfl;have f9:=aG Y3a.o 9;clear h1 h3)
 have F4:Hid (Fr (At1 b) w ((((v4.setCell ⟨w2.heap.size,6,none⟩ (.int .u64 (aB aS 0))).setCell ⟨w2.heap.size,7,none⟩ (.int .u64 (aB aS 1))).setCell ⟨w2.heap.size,8,none⟩ (.int .u64 (aB aS 2))).setCell ⟨w2.heap.size,9,none⟩ (.int .u64 (aB aS 3)))):=(fP (fP (fP (fP F3a.o (by omega) 6 _) (by omega) 7 _) (by omega) 8 _) (by omega) 9 _)
 have Y4:Hid (((((v4.setCell ⟨w2.heap.size,6,none⟩ (.int .u64 (aB aS 0))).setCell ⟨w2.heap.size,7,none⟩ (.int .u64 (aB aS 1))).setCell ⟨w2.heap.size,8,none⟩ (.int .u64 (aB aS 2))).setCell ⟨w2.heap.size,9,none⟩ (.int .u64 (aB aS 3))).heap[w2.heap.size]?=some (.cells #[.int .i64 1,.int .i64 0,.int .i64 0,.int .i64 0,.int .i64 0,.int .i64 0,.int .u64 (aB aS 0),.int .u64 (aB aS 1),.int .u64 (aB aS 2),.int .u64 (aB aS 3)] 54 (0,0))):=(aI (aI (aI (aI Y3a.o 6 _) 7 _) 8 _) 9 _)
 have X4:Hid (((((v4.setCell ⟨w2.heap.size,6,none⟩ (.int .u64 (aB aS 0))).setCell ⟨w2.heap.size,7,none⟩ (.int .u64 (aB aS 1))).setCell ⟨w2.heap.size,8,none⟩ (.int .u64 (aB aS 2))).setCell ⟨w2.heap.size,9,none⟩ (.int .u64 (aB aS 3))).heap[w.heap.size]?=some (.cells #[.int .i64 0,.int .i64 0,.int .i64 0,.int .i64 0,.int .i64 0,.int .i64 0,.int .u64 0,.int .u64 0,.int .u64 0,.int .u64 0] 54 (0,0))):=(bZ (bZ (bZ (bZ X3a.o (by omega) 6 _) (by omega) 7 _) (by omega) 8 _) (by omega) 9 _)
 have L4:Hid (LB ((((v4.setCell ⟨w2.heap.size,6,none⟩ (.int .u64 (aB aS 0))).setCell ⟨w2.heap.size,7,none⟩ (.int .u64 (aB aS 1))).setCell ⟨w2.heap.size,8,none⟩ (.int .u64 (aB aS 2))).setCell ⟨w2.heap.size,9,none⟩ (.int .u64 (aB aS 3))) b [] false a):=(bZ (bZ (bZ (bZ L3a.o (by omega) 6 _) (by omega) 7 _) (by omega) 8 _) (by omega) 9 _)
 clear c6 f6 c7 f7 c8 f8 c9 f9
 generalize ((((v4.setCell ⟨w2.heap.size,6,none⟩ (.int .u64 (aB aS 0))).setCell ⟨w2.heap.size,7,none⟩ (.int .u64 (aB aS 1))).setCell ⟨w2.heap.size,8,none⟩ (.int .u64 (aB aS 2))).setCell ⟨w2.heap.size,9,none⟩ (.int .u64 (aB aS 3)))=w4 at F4 Y4 X4 L4 ⊢
 have HE:=aD (iM L4.o)
 have y0:=aA Y4.o (i:=0) rfl
 have x0:=aA X4.o (i:=0) rfl
 have f0:=aG X4.o 0
 have y1:=aA Y4.o (i:=1) rfl
 have x1:=aA X4.o (i:=1) rfl
 have f1:=aG X4.o 1
 have y2:=aA Y4.o (i:=2) rfl
 have x2:=aA X4.o (i:=2) rfl
 have f2:=aG X4.o 2
 have y3:=aA Y4.o (i:=3) rfl
 have x3:=aA X4.o (i:=3) rfl
 have f3:=aG X4.o 3
 have y4:=aA Y4.o (i:=4) rfl
 have x4:=aA X4.o (i:=4) rfl
 have f4:=aG X4.o 4
 have y5:=aA Y4.o (i:=5) rfl
 have x5:=aA X4.o (i:=5) rfl
 have f5:=aG X4.o 5
 have y6:=aA Y4.o (i:=6) rfl
 have x6:=aA X4.o (i:=6) rfl
 have f6:=aG X4.o 6
 have y7:=aA Y4.o (i:=7) rfl
 have x7:=aA X4.o (i:=7) rfl
 have f7:=aG X4.o 7
 have y8:=aA Y4.o (i:=8) rfl
 have x8:=aA X4.o (i:=8) rfl
 have f8:=aG X4.o 8
 have y9:=aA Y4.o (i:=9) rfl
 have x9:=aA X4.o (i:=9) rfl
 have f9:=aG X4.o 9
 go_wp2_with first
  |(go_at_call 34;(with_reducible refine(aU _ _ _).mono ?_);rintro e w7 ⟨rfl,h7⟩;rw [h7];clear h7 w7)
  |(go_at_call 77;(with_reducible refine(HE.o).mono ?_);rintro e w7 ⟨rfl,h7⟩;rw [h7];clear h7 w7)
 refine bodyPost_ret (v:=.agg #[.int .i64 1,.int .i64 0,.int .i64 0,.int .i64 0,.int .i64 0,.int .i64 0,.int .u64 (aB aS 0),.int .u64 (aB aS 1),.int .u64 (aB aS 2),.int .u64 (aB aS 3)]) (by simp [results,Tryz.results61,go_sem,x0,x1,x2,x3,x4,x5,x6,x7,x8,x9]) rfl ⟨?_,?_,?_⟩
 ·simp
 ·exact Eq.trans (Fr.block (S:=At1 w.heap.size) (fU _ _ _ _ _ _ _ _ _ _ _ _) b (aC L4.o) (by show ¬ (b=w.heap.size);omega)) L4.o
 ·exact fF F4.o lz9 _ _ _ _ _ _ _ _ _ _
end
section
attribute [local go_sem] Oper.semAt_some
theorem cX{w:World}{k g:Nat}{o:Obj}(h:w.heap[k]?=some o)(hk:k≠g)(j:Nat)(v:Value):(w.setCell ⟨g,j,none⟩ v).heap[k]?=some o:=(Below.heap_setCell _ _ _ _ hk).trans h
theorem aA8{w:World}{b:Nat}{a:Int}(h:LB w b [112,114,111,103,114,97,109,32,48,32,48] true a):Calls Tryz.prog 60 #[.pointer (some ⟨b,0,none⟩)] w fun e w'=>e=.returned (.agg #[.slice none 0 0,.int .i64 0,.int .i64 0,.bool false])/\Fr (At1 b) w w':=by
 have lb:=aC h
 have B1:Hid (wBl w (w.alloc (.cells #[.slice none 0 0,.int .i64 0,.int .i64 0,.bool false] 24))):=bz9
 have X1:Hid ((w.alloc (.cells #[.slice none 0 0,.int .i64 0,.int .i64 0,.bool false] 24)).heap[w.heap.size]?=some (.cells #[.slice none 0 0,.int .i64 0,.int .i64 0,.bool false] 24 (0,0))):=aE w _
 have HW:=aD (fO (h.kept B1.o) (by decide))
 rw [show cL 32 [112,114,111,103,114,97,109,32,48,32,48]=([112,114,111,103,114,97,109],[48,32,48],true) by decide] at HW
 have HW2:Hid (Calls Tryz.prog 75 #[.pointer (some ⟨b,0,none⟩)] (w.alloc (.cells #[.slice none 0 0,.int .i64 0,.int .i64 0,.bool false] 24)) fun e w'=>e=.returned (.string ⟨#[112,114,111,103,114,97,109]⟩)/\LB w' b [48,32,48] true a/\Fr (At1 b) (w.alloc (.cells #[.slice none 0 0,.int .i64 0,.int .i64 0,.bool false] 24)) w'):=HW
 clear h HW
 go_enter Tryz.func60,Tryz.ntmps60
 go_upto_region 1 with fail
 generalize (w.alloc (.cells #[.slice none 0 0,.int .i64 0,.int .i64 0,.bool false] 24))=w1 at B1 X1 HW2 ⊢
 have l1:=aC X1.o
 go_upto_region 4 with (go_at_call 75;(with_reducible refine(HW2.o).mono ?_);rintro e w2 ⟨rfl,h21,h22⟩;have L2:=aD h21;have F2:=aD h22;have X2:=aD ((h22.block _ l1 (by show ¬ (w.heap.size=b);omega)).trans X1.o);have FF:=aD ((Fr.of_below (S:=At1 b) B1.o).trans h22);clear h21 h22)
 have BA:wBl w2 (w2.alloc (.cells #[.slice none 0 0,.int .i64 0,.int .i64 0,.bool false] 24)):=bz9
 have X3:=aD ((BA.block _ (aC X2.o)).trans X2.o)
 have Y3:Hid ((w2.alloc (.cells #[.slice none 0 0,.int .i64 0,.int .i64 0,.bool false] 24)).heap[w2.heap.size]?=some (.cells #[.slice none 0 0,.int .i64 0,.int .i64 0,.bool false] 24 (0,0))):=aE w2 _
 have L3:=aD (L2.o.kept BA)
 have F3:=aD (FF.o.then BA)
 have s1:=FF.o.size
 have s2:=aC X2.o
 clear BA
 generalize (w2.alloc (.cells #[.slice none 0 0,.int .i64 0,.int .i64 0,.bool false] 24))=w3 at X3 Y3 L3 F3 ⊢
 have HN3:=aD (fA (d:=[48]) (r:=[48]) (f:=true) L3.o (by decide) (by decide) 0 (by decide) (by decide +kernel) (by decide +kernel) (by decide))
 go_upto_region 5 with (go_at_call 76;(with_reducible refine(HN3.o).mono ?_);rintro e v4 ⟨rfl,h1,h3⟩;have L3a:=aD h1;have X3a:=aD ((h3.block _ (aC X3.o) (by show ¬ (w.heap.size=b);omega)).trans X3.o);have Y3a:=aD ((h3.block _ (aC Y3.o) (by show ¬ (w2.heap.size=b);omega)).trans Y3.o);have F3a:=aD (F3.o.trans h3);have c1:=aA Y3a.o (i:=1) rfl;have f1:=aG Y3a.o 1;clear h1 h3)
 have F4:Hid (Fr (At1 b) w (v4.setCell ⟨w2.heap.size,1,none⟩ (.int .i64 0))):=Fr.setNew F3a.o (p:=⟨w2.heap.size,1,none⟩) (by show w.heap.size<=w2.heap.size;omega) _
 have Y4:Hid ((v4.setCell ⟨w2.heap.size,1,none⟩ (.int .i64 0)).heap[w2.heap.size]?=some (.cells #[.slice none 0 0,.int .i64 0,.int .i64 0,.bool false] 24 (0,0))):=aI Y3a.o 1 _
 have X4:Hid ((v4.setCell ⟨w2.heap.size,1,none⟩ (.int .i64 0)).heap[w.heap.size]?=some (.cells #[.slice none 0 0,.int .i64 0,.int .i64 0,.bool false] 24 (0,0))):=cX X3a.o (by omega) 1 _
 have L4:Hid (LB (v4.setCell ⟨w2.heap.size,1,none⟩ (.int .i64 0)) b [48] true a):=cX L3a.o (by omega) 1 _
 clear c1 f1
 generalize (v4.setCell ⟨w2.heap.size,1,none⟩ (.int .i64 0))=w4 at F4 Y4 X4 L4 ⊢
 have HN4:=aD (fA (d:=[48]) (r:=[]) (f:=false) L4.o (by decide) (by decide) 0 (by decide) (by decide +kernel) (by decide +kernel) (by decide))
 go_upto_region 6 with (go_at_call 76;(with_reducible refine(HN4.o).mono ?_);rintro e v5 ⟨rfl,h1,h3⟩;have L4a:=aD h1;have X4a:=aD ((h3.block _ (aC X4.o) (by show ¬ (w.heap.size=b);omega)).trans X4.o);have Y4a:=aD ((h3.block _ (aC Y4.o) (by show ¬ (w2.heap.size=b);omega)).trans Y4.o);have F4a:=aD (F4.o.trans h3);have c2:=aA Y4a.o (i:=2) rfl;have f2:=aG Y4a.o 2;clear h1 h3)
 have F5:Hid (Fr (At1 b) w (v5.setCell ⟨w2.heap.size,2,none⟩ (.int .i64 0))):=Fr.setNew F4a.o (p:=⟨w2.heap.size,2,none⟩) (by show w.heap.size<=w2.heap.size;omega) _
 have Y5:Hid ((v5.setCell ⟨w2.heap.size,2,none⟩ (.int .i64 0)).heap[w2.heap.size]?=some (.cells #[.slice none 0 0,.int .i64 0,.int .i64 0,.bool false] 24 (0,0))):=aI Y4a.o 2 _
 have X5:Hid ((v5.setCell ⟨w2.heap.size,2,none⟩ (.int .i64 0)).heap[w.heap.size]?=some (.cells #[.slice none 0 0,.int .i64 0,.int .i64 0,.bool false] 24 (0,0))):=cX X4a.o (by omega) 2 _
 have L5:Hid (LB (v5.setCell ⟨w2.heap.size,2,none⟩ (.int .i64 0)) b [] false a):=cX L4a.o (by omega) 2 _
 clear c2 f2
 generalize (v5.setCell ⟨w2.heap.size,2,none⟩ (.int .i64 0))=w5 at F5 Y5 X5 L5 ⊢
 have HE:=aD (iM L5.o)
 have m1:=aA L5.o (i:=1) rfl
 have y0:=aA Y5.o (i:=0) rfl
 have y1:=aA Y5.o (i:=1) rfl
 have y2:=aA Y5.o (i:=2) rfl
 have y3:=aA Y5.o (i:=3) rfl
 have x0:=aA X5.o (i:=0) rfl
 have x1:=aA X5.o (i:=1) rfl
 have x2:=aA X5.o (i:=2) rfl
 have x3:=aA X5.o (i:=3) rfl
 have f0:=aG X5.o 0
 have f1:=aG X5.o 1
 have f2:=aG X5.o 2
 have f3:=aG X5.o 3
 go_wp2_with (go_at_call 77;(with_reducible refine(HE.o).mono ?_);rintro e w7 ⟨rfl,h7⟩;rw [h7];clear h7 w7)
 refine bodyPost_ret (v:=.agg #[.slice none 0 0,.int .i64 0,.int .i64 0,.bool false]) (by simp [results,Tryz.results60,go_sem,x0,x1,x2,x3]) rfl ⟨rfl,?_⟩
 exact Fr.setNew (Fr.setNew (Fr.setNew (Fr.setNew F5.o (p:=⟨w.heap.size,0,none⟩) lz9 _) (p:=⟨w.heap.size,1,none⟩) lz9 _) (p:=⟨w.heap.size,2,none⟩) lz9 _) (p:=⟨w.heap.size,3,none⟩) lz9 _
def RB(w:World)(b:Nat)(rest:List UInt8)(at_:Int)(v:Value):Prop:=w.heap[b]?=some (.cells #[.string (txt rest),.int .i64 at_,v] 89 (0,0))
theorem RB.kept{w w':World}{b:Nat}{r:List UInt8}{a:Int}{v:Value}(h:RB w b r a v)(hb:wBl w w'):RB w' b r a v:=(hb.block _ (aC h)).trans h
def LiP(w:World)(b:Nat)(l r:List UInt8)(at_:Int)(v:Value)(e:Ending)(w':World):Prop:=∃ g,e=.returned (.pointer (some ⟨g,0,none⟩))/\w.heap.size<=g/\LB w' g l true at_/\RB w' b r (at_+(l.length+1)) v/\Fr (At1 b) w w'
theorem pY{w:World}{b:Nat}{s l r:List UInt8}{a:Int}{v:Value}(h:RB w b s a v)(hs:cL 10 s=(l,r,true))(hl:s.length<=1000000)(h0:0<=a)(h1:a<=1000000)(hll:l.length<=1000000):Calls Tryz.prog 59 #[.pointer (some ⟨b,0,none⟩)] w (LiP w b l r a v):=by
 have H:=aD h
 have c0:=aA h (i:=0) rfl
 have HX:=aD (qT s 10 (by omega) w)
 rw [hs] at HX
 have hz:=aR l
 clear h hs
 go_enter Tryz.func59,Tryz.ntmps59
 go_upto_region 2 with (go_at_call 73;(with_reducible refine(HX.o).mono ?_);rintro e w5 ⟨rfl,h5⟩;have B5:=aD h5;have H5:=aD (H.o.kept h5);have d0:=aA H5.o (i:=0) rfl;have d1:=aA H5.o (i:=1) rfl;have f0:=aG H5.o 0;have f1:=aG H5.o 1;have lb:=aC H5.o;clear h5)
 have hw1:IntKind.wrap .i64 ((l.length:Int)+1)=(l.length:Int)+1:=wrap_small _ (by omega) (by omega)
 have hw2:IntKind.wrap .i64 (a+((l.length:Int)+1))=a+((l.length:Int)+1):=wrap_small _ (by omega) (by omega)
 go_wp2
 go_ret
 have hb:Fr (At1 b) w ((w5.setCell ⟨b,0,none⟩ (.string (txt r))).setCell ⟨b,1,none⟩ (.int .i64 (a+((l.length:Int)+1)))):=Fr.setCell (S:=At1 b) (Fr.setCell (S:=At1 b) (Fr.of_below B5.o) (p:=⟨b,0,none⟩) rfl _) (p:=⟨b,1,none⟩) rfl _
 have hsz:((w5.setCell ⟨b,0,none⟩ (.string (txt r))).setCell ⟨b,1,none⟩ (.int .i64 (a+((l.length:Int)+1)))).heap.size=w5.heap.size:=by simp [World.setCell]
 have hrb:((w5.setCell ⟨b,0,none⟩ (.string (txt r))).setCell ⟨b,1,none⟩ (.int .i64 (a+((l.length:Int)+1)))).heap[b]?=some (.cells #[.string (txt r),.int .i64 (a+((l.length:Int)+1)),v] 89 (0,0)):=aI (aI H5.o 0 _) 1 _
 refine⟨w5.heap.size,rfl,B5.o.size,?_,(Below.heap_alloc _ _ _ (by rw [hsz];exact lb)).trans hrb,hb.alloc _⟩
 have:=aE ((w5.setCell ⟨b,0,none⟩ (.string (txt r))).setCell ⟨b,1,none⟩ (.int .i64 (a+((l.length:Int)+1)))) (.cells #[.string (txt l),.bool true,.int .i64 a] 114)
 rw [hsz] at this
 exact this
end
section
attribute [local go_sem] Oper.semAt_some
theorem dB{base:Nat}(W:World)(x:List UInt8)(hb:base<=W.heap.size):SR base (W.alloc (.cells #[.string (txt x)] 9)) (.slice (some ⟨W.heap.size,0,none⟩) 1 1) [x]:=
 ⟨rfl,.inr ⟨W.heap.size,1,_,rfl,hb,aE W _,j9 _,by unfold maxLen;omega,rfl,rfl⟩⟩
def SRR(w:World)(xs:List (List UInt8))(e:Ending)(w':World):Prop:=∃ v,e=.returned v/\SR w.heap.size w' v xs/\wBl w w'
theorem vX{w:World}(hT:z1_Tab w)(i:Ins)(hi0:i=⟨11,0,0,0,0,0,0#256⟩):Calls Tryz.prog 27 #[.agg #[.int .i64 i.op,.int .i64 i.x,.int .i64 i.y,.int .i64 i.n,.int .i64 i.mn,.int .i64 i.mx,.int .u64 (aB i.s 0),.int .u64 (aB i.s 1),.int .u64 (aB i.s 2),.int .u64 (aB i.s 3)]] w (SRR w [[109,97,116,99,104]]):=by
 have B1:Hid (wBl w (w.alloc (.cells #[.int .i64 i.op,.int .i64 i.x,.int .i64 i.y,.int .i64 i.n,.int .i64 i.mn,.int .i64 i.mx,.int .u64 (aB i.s 0),.int .u64 (aB i.s 1),.int .u64 (aB i.s 2),.int .u64 (aB i.s 3)] 54))):=bz9
 have X1:Hid ((w.alloc (.cells #[.int .i64 i.op,.int .i64 i.x,.int .i64 i.y,.int .i64 i.n,.int .i64 i.mn,.int .i64 i.mx,.int .u64 (aB i.s 0),.int .u64 (aB i.s 1),.int .u64 (aB i.s 2),.int .u64 (aB i.s 3)] 54)).heap[w.heap.size]?=some (.cells #[.int .i64 i.op,.int .i64 i.x,.int .i64 i.y,.int .i64 i.n,.int .i64 i.mn,.int .i64 i.mx,.int .u64 (aB i.s 0),.int .u64 (aB i.s 1),.int .u64 (aB i.s 2),.int .u64 (aB i.s 3)] 54 (0,0))):=aE w _
 have HT:=aD hT
 have HI:=aD hi0
 clear hi0
 obtain⟨t0,hi,hz0,hz1,hz2⟩:=info_parts bG
 have hs:=fun (W:World)=>(show Calls Tryz.prog 33 #[.int .i64 11] W fun e w'=>e=.returned (.tuple #[.string (txt [109,97,116,99,104]),.int .i64 0])/\w'=W from aO 11 W)
 have q24:hsT 0 24=false:=by decide
 have q32:hsT 0 32=false:=by decide
 have q2:hsT 0 2=false:=by decide
 have q4:hsT 0 4=false:=by decide
 have q1:hsT 0 1=false:=by decide
 clear hT
 go_enter Tryz.func27,Tryz.ntmps27
 go_upto_region 1 with fail
 generalize (w.alloc (.cells #[.int .i64 i.op,.int .i64 i.x,.int .i64 i.y,.int .i64 i.n,.int .i64 i.mn,.int .i64 i.mx,.int .u64 (aB i.s 0),.int .u64 (aB i.s 1),.int .u64 (aB i.s 2),.int .u64 (aB i.s 3)] 54))=w1 at B1 X1 ⊢
 have c0:w1.cell? ⟨w.heap.size,0,none⟩=some (.int .i64 11):=aA X1.o (i:=0) (by have h:=HI.o;subst h;rfl)
 have l1:=aC X1.o
 go_upto_region 3 with (go_at_call 33;(with_reducible refine(hs _).mono ?_);rintro e w5 ⟨rfl,rfl⟩)
 have R2:Hid (SR w.heap.size (w5.alloc (.cells #[.string (txt [109,97,116,99,104])] 9)) (.slice (some ⟨w5.heap.size,0,none⟩) 1 1) [[109,97,116,99,104]]):=dB w5 _ (by omega)
 have B2:Hid (wBl w (w5.alloc (.cells #[.string (txt [109,97,116,99,104])] 9))):=aF B1.o (bz9) lz9
 have X2:Hid ((w5.alloc (.cells #[.string (txt [109,97,116,99,104])] 9)).heap[w.heap.size]?=some (.cells #[.int .i64 i.op,.int .i64 i.x,.int .i64 i.y,.int .i64 i.n,.int .i64 i.mn,.int .i64 i.mx,.int .u64 (aB i.s 0),.int .u64 (aB i.s 1),.int .u64 (aB i.s 2),.int .u64 (aB i.s 3)] 54 (0,0))):=(Below.heap_alloc _ _ _ l1).trans X1.o
 clear c0 B1 X1 hs
 generalize (w5.alloc (.cells #[.string (txt [109,97,116,99,104])] 9))=w6 at B2 X2 R2 ⊢
 have l2:=aC X2.o
 go_wp2_with (go_at_call 34;(with_reducible refine(aU _ _ _).mono ?_);rintro e w7 ⟨rfl,rfl⟩)
 go_ret
 exact⟨_,rfl,R2.o,B2.o⟩
theorem yL{w:World}(hT:z1_Tab w)(i:Ins)(hi0:i=⟨3,0,0,0,0,0,0#256⟩):Calls Tryz.prog 27 #[.agg #[.int .i64 i.op,.int .i64 i.x,.int .i64 i.y,.int .i64 i.n,.int .i64 i.mn,.int .i64 i.mx,.int .u64 (aB i.s 0),.int .u64 (aB i.s 1),.int .u64 (aB i.s 2),.int .u64 (aB i.s 3)]] w (SRR w [[106,117,109,112],[48]]):=by
 have B1:Hid (wBl w (w.alloc (.cells #[.int .i64 i.op,.int .i64 i.x,.int .i64 i.y,.int .i64 i.n,.int .i64 i.mn,.int .i64 i.mx,.int .u64 (aB i.s 0),.int .u64 (aB i.s 1),.int .u64 (aB i.s 2),.int .u64 (aB i.s 3)] 54))):=bz9
 have X1:Hid ((w.alloc (.cells #[.int .i64 i.op,.int .i64 i.x,.int .i64 i.y,.int .i64 i.n,.int .i64 i.mn,.int .i64 i.mx,.int .u64 (aB i.s 0),.int .u64 (aB i.s 1),.int .u64 (aB i.s 2),.int .u64 (aB i.s 3)] 54)).heap[w.heap.size]?=some (.cells #[.int .i64 i.op,.int .i64 i.x,.int .i64 i.y,.int .i64 i.n,.int .i64 i.mn,.int .i64 i.mx,.int .u64 (aB i.s 0),.int .u64 (aB i.s 1),.int .u64 (aB i.s 2),.int .u64 (aB i.s 3)] 54 (0,0))):=aE w _
 have HT:=aD hT
 have HI:=aD hi0
 clear hi0
 obtain⟨t0,hi,hz0,hz1,hz2⟩:=info_parts bG
 have hs:=fun (W:World)=>(show Calls Tryz.prog 33 #[.int .i64 3] W fun e w'=>e=.returned (.tuple #[.string (txt [106,117,109,112]),.int .i64 2])/\w'=W from aO 3 W)
 have q24:hsT 2 24=false:=by decide
 have q32:hsT 2 32=false:=by decide
 have q2:hsT 2 2=true:=by decide
 have q4:hsT 2 4=false:=by decide
 have q1:hsT 2 1=false:=by decide
 clear hT
 go_enter Tryz.func27,Tryz.ntmps27
 go_upto_region 1 with fail
 generalize (w.alloc (.cells #[.int .i64 i.op,.int .i64 i.x,.int .i64 i.y,.int .i64 i.n,.int .i64 i.mn,.int .i64 i.mx,.int .u64 (aB i.s 0),.int .u64 (aB i.s 1),.int .u64 (aB i.s 2),.int .u64 (aB i.s 3)] 54))=w1 at B1 X1 ⊢
 have c0:w1.cell? ⟨w.heap.size,0,none⟩=some (.int .i64 3):=aA X1.o (i:=0) (by have h:=HI.o;subst h;rfl)
 have l1:=aC X1.o
 go_upto_region 3 with (go_at_call 33;(with_reducible refine(hs _).mono ?_);rintro e w5 ⟨rfl,rfl⟩)
 have R2:Hid (SR w.heap.size (w5.alloc (.cells #[.string (txt [106,117,109,112])] 9)) (.slice (some ⟨w5.heap.size,0,none⟩) 1 1) [[106,117,109,112]]):=dB w5 _ (by omega)
 have B2:Hid (wBl w (w5.alloc (.cells #[.string (txt [106,117,109,112])] 9))):=aF B1.o (bz9) lz9
 have X2:Hid ((w5.alloc (.cells #[.string (txt [106,117,109,112])] 9)).heap[w.heap.size]?=some (.cells #[.int .i64 i.op,.int .i64 i.x,.int .i64 i.y,.int .i64 i.n,.int .i64 i.mn,.int .i64 i.mx,.int .u64 (aB i.s 0),.int .u64 (aB i.s 1),.int .u64 (aB i.s 2),.int .u64 (aB i.s 3)] 54 (0,0))):=(Below.heap_alloc _ _ _ l1).trans X1.o
 clear c0 B1 X1 hs
 generalize (w5.alloc (.cells #[.string (txt [106,117,109,112])] 9))=w6 at B2 X2 R2 ⊢
 have l2:=aC X2.o
 have d1:w6.cell? ⟨w.heap.size,1,none⟩=some (.int .i64 0):=aA X2.o (i:=1) (by have h:=HI.o;subst h;rfl)
 have IT:=fun W=>(show Calls Tryz.prog 51 #[.int .i64 0] W fun e w'=>e=.returned (.string (txt [48]))/\w'=W from iO 0 (by decide) [48] (by decide +kernel) W)
 go_wp2_with first
  |(go_at_call 34;(with_reducible refine(aU _ _ _).mono ?_);rintro e w7 ⟨rfl,rfl⟩)
  |(go_at_call 51;(with_reducible refine(IT _).mono ?_);rintro e v3 ⟨rfl,rfl⟩;have R2a:=R2;have B2a:=B2;have X2a:=X2)
  |(at_builtin;refine wpList_append_own_at _ rfl _ _ 69 rfl w.heap.size 9 t0 (.string ⟨#[]⟩) 1 16 bD hi hz0 hz1 hz2 rfl (by decide) _ 1 (stC [[106,117,109,112]]) rfl (i9 R2a.o _) ⟨v3.heap.size,0,none⟩ 1 1 [.string (txt [48])] rfl rfl (bH _ _ _) (by simp [Value.oneCell']) ?c3 ?c4 ?c5 ?_)
 case c3=>unfold maxLen;omega
 case c4=>omega
 case c5=>have:=B2a.o.size;simp;omega
 intro p3 w3x hown hgrow _ hblk
 have B3:Hid (wBl w w3x):=aD ((B2a.o.alloc (by have:=B2a.o.size;omega) _).grown hgrow (by have:=B2a.o.size;simp;omega) (fun k hk=>(aH R2a.o hk).1))
 have R3:Hid (SR w.heap.size w3x p3 [[106,117,109,112],[48]]):=hown
 have X3:Hid (w3x.heap[w.heap.size]?=some (.cells #[.int .i64 i.op,.int .i64 i.x,.int .i64 i.y,.int .i64 i.n,.int .i64 i.mn,.int .i64 i.mx,.int .u64 (aB i.s 0),.int .u64 (aB i.s 1),.int .u64 (aB i.s 2),.int .u64 (aB i.s 3)] 54 (0,0))):=aD ((hgrow.block _ (by have:=aC X2a.o;simp;omega) (fun e=>aJ R2a.o X2a.o (by decide) e.symm)).trans ((Below.heap_alloc _ _ _ (aC X2a.o)).trans X2a.o))
 have l3:=aC X3.o
 obtain⟨g3,c3,rfl,-⟩:=SR.split R3.o (by simp)
 clear hown hgrow hblk
 go_wp2_with (go_at_call 34;(with_reducible refine(aU _ _ _).mono ?_);rintro e w7 ⟨rfl,rfl⟩)
 go_ret
 exact⟨_,rfl,R3.o,B3.o⟩
theorem yM{w:World}(hT:z1_Tab w)(i:Ins)(hi0:i=⟨2,1,3,0,0,0,0#256⟩):Calls Tryz.prog 27 #[.agg #[.int .i64 i.op,.int .i64 i.x,.int .i64 i.y,.int .i64 i.n,.int .i64 i.mn,.int .i64 i.mx,.int .u64 (aB i.s 0),.int .u64 (aB i.s 1),.int .u64 (aB i.s 2),.int .u64 (aB i.s 3)]] w (SRR w [[115,112,108,105,116],[49],[51]]):=by
 have B1:Hid (wBl w (w.alloc (.cells #[.int .i64 i.op,.int .i64 i.x,.int .i64 i.y,.int .i64 i.n,.int .i64 i.mn,.int .i64 i.mx,.int .u64 (aB i.s 0),.int .u64 (aB i.s 1),.int .u64 (aB i.s 2),.int .u64 (aB i.s 3)] 54))):=bz9
 have X1:Hid ((w.alloc (.cells #[.int .i64 i.op,.int .i64 i.x,.int .i64 i.y,.int .i64 i.n,.int .i64 i.mn,.int .i64 i.mx,.int .u64 (aB i.s 0),.int .u64 (aB i.s 1),.int .u64 (aB i.s 2),.int .u64 (aB i.s 3)] 54)).heap[w.heap.size]?=some (.cells #[.int .i64 i.op,.int .i64 i.x,.int .i64 i.y,.int .i64 i.n,.int .i64 i.mn,.int .i64 i.mx,.int .u64 (aB i.s 0),.int .u64 (aB i.s 1),.int .u64 (aB i.s 2),.int .u64 (aB i.s 3)] 54 (0,0))):=aE w _
 have HT:=aD hT
 have HI:=aD hi0
 clear hi0
 obtain⟨t0,hi,hz0,hz1,hz2⟩:=info_parts bG
 have hs:=fun (W:World)=>(show Calls Tryz.prog 33 #[.int .i64 2] W fun e w'=>e=.returned (.tuple #[.string (txt [115,112,108,105,116]),.int .i64 6])/\w'=W from aO 2 W)
 have q24:hsT 6 24=false:=by decide
 have q32:hsT 6 32=false:=by decide
 have q2:hsT 6 2=true:=by decide
 have q4:hsT 6 4=true:=by decide
 have q1:hsT 6 1=false:=by decide
 clear hT
 go_enter Tryz.func27,Tryz.ntmps27
 go_upto_region 1 with fail
 generalize (w.alloc (.cells #[.int .i64 i.op,.int .i64 i.x,.int .i64 i.y,.int .i64 i.n,.int .i64 i.mn,.int .i64 i.mx,.int .u64 (aB i.s 0),.int .u64 (aB i.s 1),.int .u64 (aB i.s 2),.int .u64 (aB i.s 3)] 54))=w1 at B1 X1 ⊢
 have c0:w1.cell? ⟨w.heap.size,0,none⟩=some (.int .i64 2):=aA X1.o (i:=0) (by have h:=HI.o;subst h;rfl)
 have l1:=aC X1.o
 go_upto_region 3 with (go_at_call 33;(with_reducible refine(hs _).mono ?_);rintro e w5 ⟨rfl,rfl⟩)
 have R2:Hid (SR w.heap.size (w5.alloc (.cells #[.string (txt [115,112,108,105,116])] 9)) (.slice (some ⟨w5.heap.size,0,none⟩) 1 1) [[115,112,108,105,116]]):=dB w5 _ (by omega)
 have B2:Hid (wBl w (w5.alloc (.cells #[.string (txt [115,112,108,105,116])] 9))):=aF B1.o (bz9) lz9
 have X2:Hid ((w5.alloc (.cells #[.string (txt [115,112,108,105,116])] 9)).heap[w.heap.size]?=some (.cells #[.int .i64 i.op,.int .i64 i.x,.int .i64 i.y,.int .i64 i.n,.int .i64 i.mn,.int .i64 i.mx,.int .u64 (aB i.s 0),.int .u64 (aB i.s 1),.int .u64 (aB i.s 2),.int .u64 (aB i.s 3)] 54 (0,0))):=(Below.heap_alloc _ _ _ l1).trans X1.o
 clear c0 B1 X1 hs
 generalize (w5.alloc (.cells #[.string (txt [115,112,108,105,116])] 9))=w6 at B2 X2 R2 ⊢
 have l2:=aC X2.o
 have d1:w6.cell? ⟨w.heap.size,1,none⟩=some (.int .i64 1):=aA X2.o (i:=1) (by have h:=HI.o;subst h;rfl)
 have IT:=fun W=>(show Calls Tryz.prog 51 #[.int .i64 1] W fun e w'=>e=.returned (.string (txt [49]))/\w'=W from iO 1 (by decide) [49] (by decide +kernel) W)
 go_wp2_with first
  |(go_at_call 34;(with_reducible refine(aU _ _ _).mono ?_);rintro e w7 ⟨rfl,rfl⟩)
  |(go_at_call 51;(with_reducible refine(IT _).mono ?_);rintro e v3 ⟨rfl,rfl⟩;have R2a:=R2;have B2a:=B2;have X2a:=X2)
  |(at_builtin;refine wpList_append_own_at _ rfl _ _ 69 rfl w.heap.size 9 t0 (.string ⟨#[]⟩) 1 16 bD hi hz0 hz1 hz2 rfl (by decide) _ 1 (stC [[115,112,108,105,116]]) rfl (i9 R2a.o _) ⟨v3.heap.size,0,none⟩ 1 1 [.string (txt [49])] rfl rfl (bH _ _ _) (by simp [Value.oneCell']) ?c3 ?c4 ?c5 ?_)
 case c3=>unfold maxLen;omega
 case c4=>omega
 case c5=>have:=B2a.o.size;simp;omega
 intro p3 w3x hown hgrow _ hblk
 have B3:Hid (wBl w w3x):=aD ((B2a.o.alloc (by have:=B2a.o.size;omega) _).grown hgrow (by have:=B2a.o.size;simp;omega) (fun k hk=>(aH R2a.o hk).1))
 have R3:Hid (SR w.heap.size w3x p3 [[115,112,108,105,116],[49]]):=hown
 have X3:Hid (w3x.heap[w.heap.size]?=some (.cells #[.int .i64 i.op,.int .i64 i.x,.int .i64 i.y,.int .i64 i.n,.int .i64 i.mn,.int .i64 i.mx,.int .u64 (aB i.s 0),.int .u64 (aB i.s 1),.int .u64 (aB i.s 2),.int .u64 (aB i.s 3)] 54 (0,0))):=aD ((hgrow.block _ (by have:=aC X2a.o;simp;omega) (fun e=>aJ R2a.o X2a.o (by decide) e.symm)).trans ((Below.heap_alloc _ _ _ (aC X2a.o)).trans X2a.o))
 have l3:=aC X3.o
 obtain⟨g3,c3,rfl,-⟩:=SR.split R3.o (by simp)
 clear hown hgrow hblk
 have d2:w3x.cell? ⟨w.heap.size,2,none⟩=some (.int .i64 3):=aA X3.o (i:=2) (by have h:=HI.o;subst h;rfl)
 have IT:=fun W=>(show Calls Tryz.prog 51 #[.int .i64 3] W fun e w'=>e=.returned (.string (txt [51]))/\w'=W from iO 3 (by decide) [51] (by decide +kernel) W)
 go_wp2_with first
  |(go_at_call 34;(with_reducible refine(aU _ _ _).mono ?_);rintro e w7 ⟨rfl,rfl⟩)
  |(go_at_call 51;(with_reducible refine(IT _).mono ?_);rintro e v4 ⟨rfl,rfl⟩;have R3a:=R3;have B3a:=B3;have X3a:=X3)
  |(at_builtin;refine wpList_append_own_at _ rfl _ _ 69 rfl w.heap.size 9 t0 (.string ⟨#[]⟩) 1 16 bD hi hz0 hz1 hz2 rfl (by decide) _ 2 (stC [[115,112,108,105,116],[49]]) rfl (i9 R3a.o _) ⟨v4.heap.size,0,none⟩ 1 1 [.string (txt [51])] rfl rfl (bH _ _ _) (by simp [Value.oneCell']) ?c3 ?c4 ?c5 ?_)
 case c3=>unfold maxLen;omega
 case c4=>omega
 case c5=>have:=B3a.o.size;simp;omega
 intro p4 w4x hown hgrow _ hblk
 have B4:Hid (wBl w w4x):=aD ((B3a.o.alloc (by have:=B3a.o.size;omega) _).grown hgrow (by have:=B3a.o.size;simp;omega) (fun k hk=>(aH R3a.o hk).1))
 have R4:Hid (SR w.heap.size w4x p4 [[115,112,108,105,116],[49],[51]]):=hown
 have X4:Hid (w4x.heap[w.heap.size]?=some (.cells #[.int .i64 i.op,.int .i64 i.x,.int .i64 i.y,.int .i64 i.n,.int .i64 i.mn,.int .i64 i.mx,.int .u64 (aB i.s 0),.int .u64 (aB i.s 1),.int .u64 (aB i.s 2),.int .u64 (aB i.s 3)] 54 (0,0))):=aD ((hgrow.block _ (by have:=aC X3a.o;simp;omega) (fun e=>aJ R3a.o X3a.o (by decide) e.symm)).trans ((Below.heap_alloc _ _ _ (aC X3a.o)).trans X3a.o))
 have l4:=aC X4.o
 obtain⟨g4,c4,rfl,-⟩:=SR.split R4.o (by simp)
 clear hown hgrow hblk
 go_wp2_with (go_at_call 34;(with_reducible refine(aU _ _ _).mono ?_);rintro e w7 ⟨rfl,rfl⟩)
 go_ret
 exact⟨_,rfl,R4.o,B4.o⟩
theorem yN{w:World}(hT:z1_Tab w)(i:Ins)(hi0:i=⟨1,0,0,0,0,0,aS⟩):Calls Tryz.prog 27 #[.agg #[.int .i64 i.op,.int .i64 i.x,.int .i64 i.y,.int .i64 i.n,.int .i64 i.mn,.int .i64 i.mx,.int .u64 (aB i.s 0),.int .u64 (aB i.s 1),.int .u64 (aB i.s 2),.int .u64 (aB i.s 3)]] w (SRR w [[98,121,116,101],[54,49]]):=by
 have B1:Hid (wBl w (w.alloc (.cells #[.int .i64 i.op,.int .i64 i.x,.int .i64 i.y,.int .i64 i.n,.int .i64 i.mn,.int .i64 i.mx,.int .u64 (aB i.s 0),.int .u64 (aB i.s 1),.int .u64 (aB i.s 2),.int .u64 (aB i.s 3)] 54))):=bz9
 have X1:Hid ((w.alloc (.cells #[.int .i64 i.op,.int .i64 i.x,.int .i64 i.y,.int .i64 i.n,.int .i64 i.mn,.int .i64 i.mx,.int .u64 (aB i.s 0),.int .u64 (aB i.s 1),.int .u64 (aB i.s 2),.int .u64 (aB i.s 3)] 54)).heap[w.heap.size]?=some (.cells #[.int .i64 i.op,.int .i64 i.x,.int .i64 i.y,.int .i64 i.n,.int .i64 i.mn,.int .i64 i.mx,.int .u64 (aB i.s 0),.int .u64 (aB i.s 1),.int .u64 (aB i.s 2),.int .u64 (aB i.s 3)] 54 (0,0))):=aE w _
 have HT:=aD hT
 have HI:=aD hi0
 clear hi0
 obtain⟨t0,hi,hz0,hz1,hz2⟩:=info_parts bG
 have hs:=fun (W:World)=>(show Calls Tryz.prog 33 #[.int .i64 1] W fun e w'=>e=.returned (.tuple #[.string (txt [98,121,116,101]),.int .i64 65])/\w'=W from aO 1 W)
 have q24:hsT 65 24=false:=by decide
 have q32:hsT 65 32=false:=by decide
 have q2:hsT 65 2=false:=by decide
 have q4:hsT 65 4=false:=by decide
 have q1:hsT 65 1=true:=by decide
 clear hT
 go_enter Tryz.func27,Tryz.ntmps27
 go_upto_region 1 with fail
 generalize (w.alloc (.cells #[.int .i64 i.op,.int .i64 i.x,.int .i64 i.y,.int .i64 i.n,.int .i64 i.mn,.int .i64 i.mx,.int .u64 (aB i.s 0),.int .u64 (aB i.s 1),.int .u64 (aB i.s 2),.int .u64 (aB i.s 3)] 54))=w1 at B1 X1 ⊢
 have c0:w1.cell? ⟨w.heap.size,0,none⟩=some (.int .i64 1):=aA X1.o (i:=0) (by have h:=HI.o;subst h;rfl)
 have l1:=aC X1.o
 go_upto_region 3 with (go_at_call 33;(with_reducible refine(hs _).mono ?_);rintro e w5 ⟨rfl,rfl⟩)
 have R2:Hid (SR w.heap.size (w5.alloc (.cells #[.string (txt [98,121,116,101])] 9)) (.slice (some ⟨w5.heap.size,0,none⟩) 1 1) [[98,121,116,101]]):=dB w5 _ (by omega)
 have B2:Hid (wBl w (w5.alloc (.cells #[.string (txt [98,121,116,101])] 9))):=aF B1.o (bz9) lz9
 have X2:Hid ((w5.alloc (.cells #[.string (txt [98,121,116,101])] 9)).heap[w.heap.size]?=some (.cells #[.int .i64 i.op,.int .i64 i.x,.int .i64 i.y,.int .i64 i.n,.int .i64 i.mn,.int .i64 i.mx,.int .u64 (aB i.s 0),.int .u64 (aB i.s 1),.int .u64 (aB i.s 2),.int .u64 (aB i.s 3)] 54 (0,0))):=(Below.heap_alloc _ _ _ l1).trans X1.o
 clear c0 B1 X1 hs
 generalize (w5.alloc (.cells #[.string (txt [98,121,116,101])] 9))=w6 at B2 X2 R2 ⊢
 have l2:=aC X2.o
 have d6:w6.cell? ⟨w.heap.size,6,none⟩=some (.int .u64 (aB aS 0)):=aA X2.o (i:=6) (by have h:=HI.o;subst h;rfl)
 have d7:w6.cell? ⟨w.heap.size,7,none⟩=some (.int .u64 (aB aS 1)):=aA X2.o (i:=7) (by have h:=HI.o;subst h;rfl)
 have d8:w6.cell? ⟨w.heap.size,8,none⟩=some (.int .u64 (aB aS 2)):=aA X2.o (i:=8) (by have h:=HI.o;subst h;rfl)
 have d9:w6.cell? ⟨w.heap.size,9,none⟩=some (.int .u64 (aB aS 3)):=aA X2.o (i:=9) (by have h:=HI.o;subst h;rfl)
 have SW:=aD (jK (HT.o.below (B2.o)))
 go_wp2_with first
  |(go_at_call 34;(with_reducible refine(aU _ _ _).mono ?_);rintro e w7 ⟨rfl,rfl⟩)
  |(go_at_call 53;(with_reducible refine(SW.o).mono ?_);rintro e v3 ⟨rfl,h5⟩;have R2a:=aD (aL R2.o (Fr.of_below (S:=fun _=>False) h5) (fun _ _ q=>q));have B2a:=aD (aF B2.o h5 lz9);have X2a:=aD ((h5.block _ l2).trans X2.o);clear h5)
  |(at_builtin;refine wpList_append_own_at _ rfl _ _ 69 rfl w.heap.size 9 t0 (.string ⟨#[]⟩) 1 16 bD hi hz0 hz1 hz2 rfl (by decide) _ 1 (stC [[98,121,116,101]]) rfl (i9 R2a.o _) ⟨v3.heap.size,0,none⟩ 1 1 [.string (txt [54,49])] rfl rfl (bH _ _ _) (by simp [Value.oneCell']) ?c3 ?c4 ?c5 ?_)
 case c3=>unfold maxLen;omega
 case c4=>omega
 case c5=>have:=B2a.o.size;simp;omega
 intro p3 w3x hown hgrow _ hblk
 have B3:Hid (wBl w w3x):=aD ((B2a.o.alloc (by have:=B2a.o.size;omega) _).grown hgrow (by have:=B2a.o.size;simp;omega) (fun k hk=>(aH R2a.o hk).1))
 have R3:Hid (SR w.heap.size w3x p3 [[98,121,116,101],[54,49]]):=hown
 have X3:Hid (w3x.heap[w.heap.size]?=some (.cells #[.int .i64 i.op,.int .i64 i.x,.int .i64 i.y,.int .i64 i.n,.int .i64 i.mn,.int .i64 i.mx,.int .u64 (aB i.s 0),.int .u64 (aB i.s 1),.int .u64 (aB i.s 2),.int .u64 (aB i.s 3)] 54 (0,0))):=aD ((hgrow.block _ (by have:=aC X2a.o;simp;omega) (fun e=>aJ R2a.o X2a.o (by decide) e.symm)).trans ((Below.heap_alloc _ _ _ (aC X2a.o)).trans X2a.o))
 have l3:=aC X3.o
 obtain⟨g3,c3,rfl,-⟩:=SR.split R3.o (by simp)
 clear hown hgrow hblk
 go_wp2_with (go_at_call 34;(with_reducible refine(aU _ _ _).mono ?_);rintro e w7 ⟨rfl,rfl⟩)
 go_ret
 exact⟨_,rfl,R3.o,B3.o⟩
end
section
attribute [local go_sem] Oper.semAt_some
theorem BL.keptB{T:TypeId}{base:Nat}{w w':World}{b:Nat}{l:List UInt8}(h:BL T base w b [] l)(hb:wBl w w'):BL T base w' b [] l:=by
 obtain⟨p,v,h1,h2,h3,h4,h5⟩:=h
 exact⟨p,v,(hb.block _ (aC h1)).trans h1,h2,aL h3 (Fr.of_below (S:=fun _=>False) hb) (fun _ _ q=>q),h4,h5⟩
theorem aG9{w:World}(q:Option Addr)(n c:Nat):Calls Tryz.prog 26 #[.agg #[.slice q n c,.int .i64 0,.int .i64 0,.bool false]] w (SRR w [[112,114,111,103,114,97,109],[48],[48]]):=by
 have B1:Hid (wBl w (w.alloc (.cells #[.slice q n c,.int .i64 0,.int .i64 0,.bool false] 24))):=bz9
 have IT:=fun W=>(show Calls Tryz.prog 51 #[.int .i64 0] W fun e w'=>e=.returned (.string (txt [48]))/\w'=W from iO 0 (by decide) [48] (by decide +kernel) W)
 go_enter Tryz.func26,Tryz.ntmps26
 go_wp2
 go_region_with (go_at_call 51;(with_reducible refine(IT _).mono ?_);rintro e w5 ⟨rfl,rfl⟩)
 all_goals go_wp2
 all_goals go_ret
 all_goals
  refine⟨_,rfl,⟨rfl,.inr ⟨w.heap.size+1,3,#[.string (txt [112,114,111,103,114,97,109]),.string (txt [48]),.string (txt [48])],rfl,by omega,?_,j9 _,by unfold maxLen;omega,rfl,rfl⟩⟩,(((bz9).alloc (by simp) _).drew)⟩
  have:=aE (w.alloc (.cells #[.slice q n c,.int .i64 0,.int .i64 0,.bool false] 24)) (.cells #[.string (txt [112,114,111,103,114,97,109]),.string (txt [48]),.string (txt [48])] 9)
  rw [r7] at this
  exact this
theorem jW{base base':Nat}{w:World}{b g c n:Nat}{l r:List UInt8}{xs:List (List UInt8)}(h:BL 67 base w b [] l)(hv:SR base' w (.slice (some ⟨g,0,none⟩) n c) xs)(hn:xs.length=n)(hx:xs≠[])(hr:Lib.join xs [32]=r)(hl:l.length+r.length<=100000)(hn2:n<=100000)(hb:base<=w.heap.size) :
  Calls Tryz.prog 25 #[.pointer (some ⟨b,0,none⟩),.slice (some ⟨g,0,none⟩) n c] w fun e w'=>e=.returned (.tuple #[])/\BL 67 base w' b [] (l++r++[10])/\Below base w w'/\Oth b w w':=by
 have HJ:=aD (hZ (sb:=⟨#[32]⟩) [32] r hv hn rfl hx hr (by omega) hn2)
 have H:=aD h
 clear h hv
 go_enter Tryz.func25,Tryz.ntmps25
 go_wp2_with first
  |(go_at_call 49;(with_reducible refine(HJ.o).mono ?_);rintro e w1 ⟨rfl,h1⟩;have B1:=aD h1;have HS:Hid (Calls Tryz.prog 48 #[.pointer (some ⟨b,0,none⟩),.string (txt r)] w1 fun e w'=>e=.returned (.tuple #[.int .i64 (r.length:Int),.nilIface])/\jX 67 base w1 b [] (l++r) w'):=fL bt0 (H.o.keptB h1) r (by omega) (by have:=h1.size;omega);clear h1)
  |(go_at_call 48;(with_reducible refine(HS.o).mono ?_);rintro e w2 ⟨rfl,h21,h22,h23⟩;have L2:=aD h21;have B2:=aD h22;have O2:=aD h23;have HB:Hid (Calls Tryz.prog 50 #[.pointer (some ⟨b,0,none⟩),.int .u8 10] w2 fun e w'=>e=.returned .nilIface/\jX 67 base w2 b [] (l++r++[10]) w'):=gN bt0 h21 10 (by simp;omega) (by have:=h22.size;have:=B1.o.size;omega);clear h21 h22 h23)
  |(go_at_call 50;(with_reducible refine(HB.o).mono ?_);rintro e w3 ⟨rfl,h21,h22,h23⟩;have L3:=aD h21;have B3:=aD h22;have O3:=aD h23;clear h21 h22 h23)
 go_end0
 refine⟨rfl,L3.o,((B1.o.mono hb).trans B2.o).trans B3.o,?_⟩
 refine Lib.OthersKept.trans (Lib.OthersKept.trans ?_ O2.o) O3.o
 intro k o hk _ _
 exact(B1.o.block _ (aC hk)).trans hk
def smL:List Ins:=[⟨2,1,3,0,0,0,0#256⟩,⟨1,0,0,0,0,0,aS⟩,⟨3,0,0,0,0,0,0#256⟩,⟨11,0,0,0,0,0,0#256⟩]
theorem fV(q:Option Addr)(c:Nat):rtE ⟨q,smL,c,0,0,false⟩=(0,0):=by kernel_rfl
def wds(i:Ins):List (List UInt8):=if i.op=11 then [[109,97,116,99,104]] else if i.op=3 then [[106,117,109,112],[48]] else if i.op=2 then [[115,112,108,105,116],[49],[51]] else [[98,121,116,101],[54,49]]
theorem yK{w:World}(hT:z1_Tab w){i:Ins}(hi:i∈smL):Calls Tryz.prog 27 #[.agg #[.int .i64 i.op,.int .i64 i.x,.int .i64 i.y,.int .i64 i.n,.int .i64 i.mn,.int .i64 i.mx,.int .u64 (aB i.s 0),.int .u64 (aB i.s 1),.int .u64 (aB i.s 2),.int .u64 (aB i.s 3)]] w (SRR w (wds i)):=by
 simp only [smL,k9,l0,or_false] at hi
 rcases hi with h | h | h | h
 ·have e:wds i=[[115,112,108,105,116],[49],[51]]:=by rw [h];rfl
  rw [e]
  exact yM hT i h
 ·have e:wds i=[[98,121,116,101],[54,49]]:=by rw [h];rfl
  rw [e]
  exact yN hT i h
 ·have e:wds i=[[106,117,109,112],[48]]:=by rw [h];rfl
  rw [e]
  exact yL hT i h
 ·have e:wds i=[[109,97,116,99,104]]:=by rw [h];rfl
  rw [e]
  exact vX hT i h
def lnI(i:Ins):List UInt8:=Lib.join (wds i) [32]++[10]
def hd0:List UInt8:=[112,114,111,103,114,97,109,32,48,32,48,10]
def tx0:List UInt8:=[112,114,111,103,114,97,109,32,48,32,48,10,115,112,108,105,116,32,49,32,51,10,98,121,116,101,32,54,49,10,106,117,109,112,32,48,10,109,97,116,99,104,10]
end
end Go.Proofs.YtliflleaeimngaaGreatDoor
