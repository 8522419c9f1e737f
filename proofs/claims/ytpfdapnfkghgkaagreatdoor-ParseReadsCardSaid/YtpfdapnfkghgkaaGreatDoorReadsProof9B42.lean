/-
  Parts of the proof.
-/
import Derived.Test.YtpfdapnfkghgkaaGreatDoorReadsProof9B41
namespace Go.Proofs.YtpfdapnfkghgkaaGreatDoor
open Go Go.RowKit
section
attribute [local go_sem] aR
theorem aA1{s:ByteArray}{k:Nat}{x:UInt8}(h:aJ s k [91,x]=true):UInt8.ofNat (bt s (k+1))=x:=by
 rw [(eE.1 h).2.2]
 exact UInt8.ofNat_toNat
theorem bJ5{s:ByteArray}{o k:Nat}{x:UInt8}(h:aJ s k [91,x]=true):wit s o k 0=match fnd s [x,93] (k+2) with
  | none=>.error (33,o)
  | some e=>.ok e:=by
 unfold wit
 rw [aA1 h,Nat.zero_min,Nat.add_zero]
 cases fnd s [x,93] (k+2) <;> rfl
theorem bG9{s:ByteArray}{o k:Nat}{x:UInt8}(h:aJ s k [91,x]=true):wit s o k 1=match fnd s [x,93] (k+3) with
  | none=>.error (33,o)
  | some e=>.ok e:=by
 have hl:=bE h (by simp)
 simp only [List.length_cons,List.length_nil] at hl
 have e:fnd s [x,93] (k+2+min 1 (s.size - (k+2)))=fnd s [x,93] (k+3):=by
  by_cases g:k+2 < s.size
  ·rw [show k+2+min 1 (s.size - (k+2))=k+3 by omega]
  ·have a:∀ n,k+2<=n->fnd s [x,93] n=none:=fun n hn=>qD fun i hi=>jO (by simp) (by simp only [List.length_cons,List.length_nil];omega)
   rw [a _ (by omega),a _ (by omega)]
 unfold wit
 rw [aA1 h,e]
 cases fnd s [x,93] (k+3) <;> rfl
theorem bE1{w:World}{b:Nat}{s:ByteArray}{m:Md}{p:Nat}{v:Value}(h:SX w b s m p v 0 0)(hs:s.size<=2000)(o k:Nat)(hsee:aJ s k [91,58]=true) :
  Calls Tryz.prog 142 #[.pointer (some ⟨b,0,none⟩),.int .i64 (k:Int),.int .i64 (o:Int)] w (ItIs w b s m p v (yF s o k)):=by
 unfold yF nam
 rw [bJ5 hsee]
 cases hf:fnd s [58,93] (k+2) with
 | none=>exact aD6 h hs o k hsee hf
 | some t0=>
  dsimp only
  cases hnm:nmd (s.extract (k+2) t0) with
  | mk B LL=>cases B with
   | false=>exact aL5 h hs o k hsee t0 LL hf hnm
   | true=>exact aU0 h hs o k hsee t0 LL hf hnm
theorem aM2{w:World}{b:Nat}{s:ByteArray}{m:Md}{p:Nat}{v:Value}(h:SX w b s m p v 0 0)(hs:s.size<=2000)(o k:Nat)(hsee:aJ s k [91,61]=true) :
  Calls Tryz.prog 142 #[.pointer (some ⟨b,0,none⟩),.int .i64 (k:Int),.int .i64 (o:Int)] w (ItIs w b s m p v (qF m s o k false)):=by
 unfold qF jX
 rw [bG9 hsee]
 cases hf:fnd s [61,93] (k+3) with
 | none=>exact uV h hs o k hsee hf
 | some t0=>
  dsimp only
  have ht:=eG hf
  have ht2:=bE ht.2.1 (by simp)
  simp only [List.length_cons,List.length_nil] at ht2
  have hz:(s.extract (k+2) t0).size=t0 - (k+2):=by rw [ByteArray.size_extract];omega
  have hu:=lH m (s.extract (k+2) t0) 0 (by omega)
  cases hun:un m (s.extract (k+2) t0) 0 with
  | mk c n=>
   rw [hun] at hu
   dsimp only at hu ⊢
   by_cases g:c < 0\/n < t0 - (k+2)
   ·rw [if_pos g]
    exact xR h hs o k hsee t0 c n hf hun (g.imp id (fun q=>by omega))
   ·rw [if_neg g]
    exact aE3 h hs o k hsee t0 c n hf hun ⟨fun q=>g (.inl q),by omega⟩
theorem aM3{w:World}{b:Nat}{s:ByteArray}{m:Md}{p:Nat}{v:Value}(h:SX w b s m p v 0 0)(hs:s.size<=2000)(o k:Nat)(hsee:aJ s k [91,46]=true) :
  Calls Tryz.prog 142 #[.pointer (some ⟨b,0,none⟩),.int .i64 (k:Int),.int .i64 (o:Int)] w (ItIs w b s m p v (qF m s o k true)):=by
 unfold qF jX
 rw [bG9 hsee]
 cases hf:fnd s [46,93] (k+3) with
 | none=>exact uW h hs o k hsee hf
 | some t0=>
  dsimp only
  have ht:=eG hf
  have ht2:=bE ht.2.1 (by simp)
  simp only [List.length_cons,List.length_nil] at ht2
  have hz:(s.extract (k+2) t0).size=t0 - (k+2):=by rw [ByteArray.size_extract];omega
  have hu:=lH m (s.extract (k+2) t0) 0 (by omega)
  cases hun:un m (s.extract (k+2) t0) 0 with
  | mk c n=>
   rw [hun] at hu
   dsimp only at hu ⊢
   by_cases g:c < 0\/n < t0 - (k+2)
   ·rw [if_pos g]
    exact xS h hs o k hsee t0 c n hf hun (g.imp id (fun q=>by omega))
   ·rw [if_neg g]
    exact aE4 h hs o k hsee t0 c n hf hun ⟨fun q=>g (.inl q),by omega⟩
end
section
open Go
theorem aN1{t:ByteArray}(h:(nmd t).1=true):Fit (nmd t).2/\0 < (nmd t).2.length/\(nmd t).2.length<=4:=⟨(oV t).1,zX t h,(oV t).2⟩
theorem aA5{m:Md}{s:ByteArray}{o p q:Nat}{ev:Bool}{c:Int}{L:List (Int × Int)}(ho:o<=s.size)(hp:p<=s.size)(h:hJ m s o p=.ok (ev,c,L,q)) :
  p < q/\q<=s.size/\Fit L/\0 < L.length/\L.length<=4/\0<=c/\c<=1114111:=by
 have hel:∀ d,qF m s o p d=.ok (ev,c,L,q)->p < q/\q<=s.size/\Fit L/\0 < L.length/\L.length<=4/\0<=c/\c<=1114111:=fun d hd=>by
  unfold qF at hd
  cases he:jX m s o p with
  | error e=>rw [he] at hd;cases hd
  | ok x=>
   obtain⟨c',q'⟩:=x
   have hr:=qG m s o p ho hp
   have hl:=tJ he
   rw [he] at hd hr
   cases hd
   exact⟨hr.1,hr.2,cW hl hl,by simp,by simp,hl⟩
 unfold hJ at h
 split at h
 ·unfold yF at h
  cases he:nam s o p with
  | error e=>rw [he] at h;cases h
  | ok x=>
   obtain⟨L',q'⟩:=x
   have hr:=zZ s o p ho hp
   rw [he] at h hr
   cases h
   refine⟨hr.1,hr.2,?_⟩
   unfold nam at he
   split at he
   ·cases he
   ·split at he
    ·rename_i hn
     cases he
     have:=aN1 hn
     exact⟨this.1,this.2.1,this.2.2,by omega,by omega⟩
    ·cases he
 split at h
 ·exact hel _ h
 split at h
 ·exact hel _ h
 ·unfold aQ2 at h
  split at h
  ·cases h
  ·rename_i hs
   cases he:chr m s p with
   | error e=>rw [he] at h;cases h
   | ok x=>
    obtain⟨c',q'⟩:=x
    have hr:=tM m s p (by omega)
    have hl:=nU he
    rw [he] at h hr
    cases h
    exact⟨hr.1,hr.2,cW hl hl,by simp,by simp,hl⟩
theorem jU{m:Md}{s:ByteArray}{o p:Nat}(hp:p<=s.size)(h1:aJ s p [91,58]=false)(h2:aJ s p [91,61]=false):hJ m s o p=match jD m s o p with
  | .error e=>.error e
  | .ok (c,q)=>.ok (true,c,[(c,c)],q):=by
 unfold hJ jD
 rw [h1,h2]
 simp only [Bool.false_eq_true,if_false]
 by_cases hz:p=s.size
 ·have h3:aJ s p [91,46]=false:=jO (by simp) (by simp only [List.length_cons,List.length_nil];omega)
  rw [h3]
  simp only [Bool.false_eq_true,if_false,if_pos hz]
  unfold aQ2
  rw [if_pos (by omega)]
 ·rw [if_neg hz]
  cases h3:aJ s p [91,46] with
  | true=>simp only [if_true];rfl
  | false=>
   simp only [Bool.false_eq_true,if_false]
   unfold aQ2
   rw [if_neg (by omega)]
   cases chr m s p <;> rfl
theorem zN{m:Md}{s:ByteArray}{o p:Nat}{e:Nat × Nat}(hp:p<=s.size)(h:hJ m s o p=.error e):sgl m s o p=.error e:=by
 unfold sgl
 cases h1:aJ s p [91,58] with
 | true=>
  unfold hJ yF at h
  rw [h1] at h
  simp only [if_true] at h ⊢
  cases hn:nam s o p with
  | error x=>rw [hn] at h;cases h;rfl
  | ok x=>rw [hn] at h;cases h
 | false=>
  cases h2:aJ s p [91,61] with
  | true=>
   unfold hJ qF at h
   rw [h1,h2] at h
   simp only [Bool.false_eq_true,if_false,if_true] at h ⊢
   cases hn:jX m s o p with
   | error x=>rw [hn] at h;cases h;rfl
   | ok x=>rw [hn] at h;cases h
  | false=>
   rw [jU hp h1 h2] at h
   simp only [Bool.false_eq_true,if_false]
   unfold spn
   cases hn:jD m s o p with
   | error x=>rw [hn] at h;cases h;rfl
   | ok x=>rw [hn] at h;cases h
theorem aT6{m:Md}{s:ByteArray}{o p q:Nat}{ev:Bool}{c:Int}{L:List (Int × Int)}(hp:p<=s.size)(h:hJ m s o p=.ok (ev,c,L,q))(hk:ev=false\/aJ s q [45]=false\/aJ s q [45,93]=true):sgl m s o p=.ok (L,q):=by
 unfold sgl
 cases h1:aJ s p [91,58] with
 | true=>
  unfold hJ yF at h
  rw [h1] at h
  simp only [if_true] at h ⊢
  cases hn:nam s o p with
  | error x=>rw [hn] at h;cases h
  | ok x=>rw [hn] at h;cases h;rfl
 | false=>
  cases h2:aJ s p [91,61] with
  | true=>
   unfold hJ qF at h
   rw [h1,h2] at h
   simp only [Bool.false_eq_true,if_false,if_true] at h ⊢
   cases hn:jX m s o p with
   | error x=>rw [hn] at h;cases h
   | ok x=>rw [hn] at h;cases h;rfl
  | false=>
   rw [jU hp h1 h2] at h
   simp only [Bool.false_eq_true,if_false]
   unfold spn
   cases hn:jD m s o p with
   | error x=>rw [hn] at h;cases h
   | ok x=>
    rw [hn] at h
    cases h
    simp only
    rw [if_pos]
    rcases hk with hk | hk | hk
    ·cases hk
    ·rw [hk];simp
    ·rw [hk];simp
structure Spn(m:Md)(s:ByteArray)(o p q:Nat)(c:Int):Prop where
 fst:∃ L,hJ m s o p=.ok (true,c,L,q)
 min:aJ s q [45]=true
 not:aJ s q [45,93]=false
theorem Spn.is{m:Md}{s:ByteArray}{o p q:Nat}{c:Int}(hp:p<=s.size)(h:Spn m s o p q c):sgl m s o p=if aJ s (q+1) [91,58] || aJ s (q+1) [91,61] then .error (34,p)
  else match jD m s o (q+1) with
   | .error e=>.error e
   | .ok (hi,r)=>if hi < c then .error (34,p) else .ok ([(c,hi)],r):=by
 obtain⟨L,hi⟩:=h.fst
 unfold sgl
 cases h1:aJ s p [91,58] with
 | true=>
  unfold hJ yF at hi
  rw [h1] at hi
  simp only [if_true] at hi
  cases hn:nam s o p with
  | error x=>rw [hn] at hi;cases hi
  | ok x=>rw [hn] at hi;cases hi
 | false=>
  cases h2:aJ s p [91,61] with
  | true=>
   unfold hJ qF at hi
   rw [h1,h2] at hi
   simp only [Bool.false_eq_true,if_false,if_true] at hi
   cases hn:jX m s o p with
   | error x=>rw [hn] at hi;cases hi
   | ok x=>rw [hn] at hi;cases hi
  | false=>
   rw [jU hp h1 h2] at hi
   simp only [Bool.false_eq_true,if_false]
   unfold spn
   cases hn:jD m s o p with
   | error x=>rw [hn] at hi;cases hi
   | ok x=>
    rw [hn] at hi
    cases hi
    simp only
    rw [if_neg (by rw [h.min,h.not];simp)]
    cases jD m s o (x.snd+1) <;> rfl
section
variable {m:Md} {s:ByteArray} {o p q:Nat} {c:Int}
theorem Spn.cls(h:Spn m s o p q c)(hp:p<=s.size)(hk:aJ s (q+1) [91,58]=true\/aJ s (q+1) [91,61]=true):sgl m s o p=.error (34,p):=by
 rw [h.is hp,if_pos]
 rcases hk with hk | hk <;> rw [hk] <;> simp
theorem Spn.err(h:Spn m s o p q c)(hp:p<=s.size)(hq:q+1<=s.size)(k1:aJ s (q+1) [91,58]=false)(k2:aJ s (q+1) [91,61]=false){e:Nat × Nat}(he:hJ m s o (q+1)=.error e):sgl m s o p=.error e:=by
 rw [h.is hp,k1,k2]
 rw [jU hq k1 k2] at he
 simp only [Bool.or_false,Bool.false_eq_true,if_false]
 cases hn:jD m s o (q+1) with
 | error x=>rw [hn] at he;cases he;rfl
 | ok x=>rw [hn] at he;cases he
theorem Spn.ok(h:Spn m s o p q c)(hp:p<=s.size)(hq:q+1<=s.size)(k1:aJ s (q+1) [91,58]=false)(k2:aJ s (q+1) [91,61]=false){ev:Bool}{hi:Int}{L:List (Int × Int)}{r:Nat}(he:hJ m s o (q+1)=.ok (ev,hi,L,r)) :
  sgl m s o p=if hi < c then .error (34,p) else .ok ([(c,hi)],r):=by
 rw [h.is hp,k1,k2]
 rw [jU hq k1 k2] at he
 simp only [Bool.or_false,Bool.false_eq_true,if_false]
 cases hn:jD m s o (q+1) with
 | error x=>rw [hn] at he;cases he
 | ok x=>rw [hn] at he;cases he;rfl
end
def nxt(m:Md)(s:ByteArray)(o p:Nat)(first:Bool):Rs (List (Int × Int) × Nat):=if first then sgl m s o p else itm m s o p
def uR(m:Md)(s:ByteArray)(o p f:Nat)(first:Bool)(L:List (Int × Int)):Rs (List (Int × Int) × Nat):=
 if first then (match sgl m s o p with
  | .error e=>.error e
  | .ok (l,r)=>its m s o (s.size+1) r l)
 else its m s o f p L
structure BI(m:Md)(s:ByteArray)(o:Nat)(t first:Bool)(p:Nat)(L:List (Int × Int)):Prop where
 lt:o < p
 le:p<=s.size
 fit:Fit L
 len:L.length<=4 * p
 nil:first=true->L=[]
 is:∃ f,s.size < f+p/\brk m s o=bI8 m t (uR m s o p f first L)
theorem bE7{m:Md}{s:ByteArray}{o p q:Nat}{first:Bool}{l:List (Int × Int)}(ho:o<=s.size)(hp:p<=s.size)(h:nxt m s o p first=.ok (l,q)):p < q/\q<=s.size:=by
 unfold nxt at h
 split at h
 ·have:=mD m s o p ho hp
  rw [h] at this
  exact this
 ·have:=tH m s o p ho hp
  rw [h] at this
  exact this
section
variable {m:Md} {s:ByteArray} {o p:Nat} {t first:Bool} {L:List (Int × Int)}
theorem BI.ends(h:BI m s o t false p L)(hk:aJ s p [93]=true):brk m s o=.ok (bB m L t,p+1):=by
 obtain⟨f,hf,e⟩:=h.is
 obtain⟨f,rfl⟩:∃ g,f=g+1:=⟨f - 1,by have:=h.le;omega⟩
 rw [e]
 unfold uR its
 rw [hk]
 rfl
theorem BI.err(h:BI m s o t first p L)(hk:first=true\/aJ s p [93]=false){e:Nat × Nat}(he:nxt m s o p first=.error e):brk m s o=.error e:=by
 obtain⟨f,hf,eq⟩:=h.is
 obtain⟨f,rfl⟩:∃ g,f=g+1:=⟨f - 1,by have:=h.le;omega⟩
 rw [eq]
 unfold nxt at he
 unfold uR
 cases first with
 | true=>
  simp only [if_true] at he ⊢
  rw [he]
  rfl
 | false=>
  simp only [Bool.false_eq_true,if_false] at he ⊢
  unfold its
  rcases hk with hk | hk
  ·cases hk
  ·rw [hk,he]
   rfl
theorem BI.next(h:BI m s o t first p L)(hk:first=true\/aJ s p [93]=false){l:List (Int × Int)}{q:Nat}(he:nxt m s o p first=.ok (l,q))(hl:Fit l)(h4:l.length<=4):BI m s o t false q (L ++ l):=by
 obtain⟨f,hf,eq⟩:=h.is
 obtain⟨f,rfl⟩:∃ g,f=g+1:=⟨f - 1,by have:=h.le;omega⟩
 have hq:=bE7 (by have:=h.lt;have:=h.le;omega) h.le he
 refine⟨by have:=h.lt;omega,hq.2,fun r hr=>(List.mem_append.1 hr).elim (h.fit r) (hl r),by rw [List.length_append];have:=h.len;omega,fun k=>(by cases k),?_⟩
 unfold nxt at he
 unfold uR at eq
 cases first with
 | true=>
  simp only [if_true] at he eq
  rw [he] at eq
  rw [h.nil rfl,List.nil_append]
  exact⟨s.size+1,by omega,eq⟩
 | false=>
  simp only [Bool.false_eq_true,if_false] at he eq
  unfold its at eq
  rcases hk with hk | hk
  ·cases hk
  ·rw [hk,he] at eq
   exact⟨f,by omega,eq⟩
end
theorem BI.start(m:Md)(s:ByteArray)(o:Nat)(h:o < s.size):BI m s o (aJ s (o+1) [94]) true (if aJ s (o+1) [94] then o+2 else o+1) []:=by
 have hq:o < (if aJ s (o+1) [94] then o+2 else o+1)/\(if aJ s (o+1) [94] then o+2 else o+1)<=s.size:=by
  split
  ·rename_i h
   have:=bE h (by simp)
   simp at this
   omega
  ·omega
 refine⟨hq.1,hq.2,fun r hr=>by simp at hr,by simp,fun _=>rfl,s.size+1,by omega,?_⟩
 unfold brk uR
 simp only [if_true]
 cases sgl m s o (if aJ s (o+1) [94] then o+2 else o+1) with
 | error e=>rfl
 | ok x=>rfl
theorem aX5{m:Md}{s:ByteArray}{o p:Nat}(h1:aJ s p [45]=true)(h2:aJ s p [45,93]=false):itm m s o p=if p+1=s.size then .error (33,o) else .error (34,p):=by
 unfold itm
 rw [h1,h2]
 simp
theorem aX4{m:Md}{s:ByteArray}{o p:Nat}(h:aJ s p [45]=false\/aJ s p [45,93]=true):itm m s o p=sgl m s o p:=by
 unfold itm
 rcases h with h | h <;> rw [h] <;> simp
theorem aW8{m:Md}{s:ByteArray}{o p:Nat}{first:Bool}(h:first=true\/aJ s p [45]=false\/aJ s p [45,93]=true):nxt m s o p first=sgl m s o p:=by
 unfold nxt
 cases first with
 | true=>rfl
 | false=>
  simp only [Bool.false_eq_true,if_false]
  exact aX4 (h.resolve_left (by simp))
theorem uI{m:Md}{L C:List (Int × Int)}(h:IsC C fun c=>In L c/\bK m.c c)(hf:m.f=false):IsC C (cP m L false):=h.to fun c=>by
 unfold cP
 rw [hf]
 simp only [Bool.false_eq_true,if_false]
 exact and_comm
theorem aG6{mc:Bool}{L C:List (Int × Int)}(h:IsC C fun c=>In L c/\bK mc c)(c:Int):gF C c ↔ bK mc c/\rU (In L) c:=by
 unfold gF rU
 rw [h.mem,h.mem,h.mem]
 constructor
 ·rintro (k | k | k)
  ·exact⟨k.2,.inl k.1⟩
  ·exact⟨bU _ _ (by omega) (by omega),.inr (.inl ⟨k.1.1,k.2⟩)⟩
  ·exact⟨bU _ _ (by omega) (by omega),.inr (.inr ⟨k.1.1,k.2⟩)⟩
 ·rintro ⟨k0,k | k | k⟩
  ·exact .inl ⟨k,k0⟩
  ·exact .inr (.inl ⟨⟨k.1,bU _ _ (by omega) (by omega)⟩,k.2⟩)
  ·exact .inr (.inr ⟨⟨k.1,bU _ _ (by omega) (by omega)⟩,k.2⟩)
theorem uJ{m:Md}{L C E:List (Int × Int)}(h:IsC C fun c=>In L c/\bK m.c c)(hf:m.f=true)(k:IsC E (gF C)):IsC E (cP m L false):=k.to fun c=>by
 rw [aG6 h]
 unfold cP
 rw [hf]
 simp only [Bool.false_eq_true,if_false,if_true]
theorem zO{m:Md}{L C E:List (Int × Int)}(h:IsC C (cP m L false))(k:IsC E fun c=>bK m.c c/\¬ In C c):IsC E (cP m L true):=k.to fun c=>by
 rw [h.mem]
 unfold cP
 simp only [Bool.false_eq_true,if_false,if_true]
 constructor
 ·rintro ⟨k1,k2⟩
  exact⟨k1,fun q=>k2 ⟨k1,q⟩⟩
 ·rintro ⟨k1,k2⟩
  exact⟨k1,fun q=>k2 q.2⟩
end
end Go.Proofs.YtpfdapnfkghgkaaGreatDoor
