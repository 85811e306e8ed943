import Derived.BigQuiet
import Derived.Deep.AppendLies
import Derived.Deep.DeepCutAuto
import Derived.Deep.QuietTactic
import Derived.Deep.RegionHeld3
import Derived.Deep.RegionLaw
import Derived.Laws.Bits64b
import Derived.Laws.CopyRow
import Derived.Laws.MakeOwn
import Derived.Laws.OwnMore
import Derived.Lib.Mul64
import Derived.Maps.AppendAt
import Derived.OpenShut
import Derived.ProofKit
import Derived.Test.YtgfdimkbfnpepaaGreatRows
import Derived.WalkKit
abbrev Go.Value.i (n:Int):Go.Value:=.int .i64 n
abbrev Go.Value.n0:Go.Value:=.slice none 0 0
namespace Go.Proofs.YtgfdimkbfnpepaaGreat
set_option linter.all false
open Go.Proofs.Tryz
theorem od{p:Prop}(h:p:=by omega):p:=h
theorem ot{p:Prop}(h:p:=by simp):p:=h
theorem ov{p:Prop}(h:p:=by decide):p:=h
theorem oA{p:Prop}(h:p:=by kernel_rfl):p:=h
theorem oB{p:Prop}(h:p:=by simp;omega):p:=h
theorem oE{p:Prop}(h:p:=by simp_all [okTs,okT,bD]):p:=h
theorem oR{p:Prop}(h:p:=by simp only[Ty.size,tysizes] at *;omega):p:=h
theorem oS{p:Prop}(h:p:=by assumption):p:=h
theorem oT{p:Prop}(h:p:=by unfold maxLen;omega):p:=h
theorem oX{p:Prop}(h:p:=by simp[Value.ownBlock]):p:=h
theorem oY{p:Prop}(h:p:=by unfold Addr.add;split<;>simp_all):p:=h
theorem Of{p:Prop}(h:p:=by simp[aW,Va.size,vsizes,tysizes,sizes]):p:=h
theorem Ok{p:Prop}(h:p:=by simp[mkV,noneV,Va.size,vsizes,tysizes,sizes]):p:=h
theorem On{p:Prop}(h:p:=by unfold bD;decide):p:=h
theorem OF{p:Prop}(h:p:=by go_num):p:=h
theorem OK{p:Prop}(h:p:=by simp[go_sem]):p:=h
theorem ON{p:Prop}(h:p:=by unfold Lf.fD;rw[if_neg (by decide),if_neg (by omega),if_neg (by simp[Lf.qM];rfl),if_neg (by omega),if_neg (by decide)]):p:=h
theorem OR{p:Prop}(h:p:=by simp only[jn];omega):p:=h
theorem OS{p:Prop}(h:p:=by simp[maxLen]):p:=h
theorem Zs{p:Prop}(h:p:=by simp only[xT];unfold maxLen;omega):p:=h
theorem ZD{p:Prop}(h:p:=by simp[results,Tryz.results187,go_sem,bY]):p:=h
theorem ZS{p:Prop}(h:p:=by unfold bT;rw[if_neg (by omega),if_neg (by omega)]):p:=h
theorem Xs{p:Prop}(h:p:=by simp[aW,aZ,Va.size,vsizes,tysizes,sizes]):p:=h
theorem XS{p:Prop}(h:p:=by split<;>simp[mkV,aV,noneV,aW,Va.size,vsizes,tysizes,sizes]):p:=h
theorem Kd{p:Prop}(h:p:=by simp[results,Tryz.results52,go_sem]):p:=h
theorem Kf{p:Prop}(h:p:=by rw[eQ];simp):p:=h
theorem Ks{p:Prop}(h:p:=by simp[dI,sFq,bB,Ty.t]):p:=h
theorem Kx{p:Prop}(h:p:=by simp only[qS,jn,xT];omega):p:=h
theorem KK{p:Prop}(h:p:=by simp[vasD_map]):p:=h
theorem Ys{p:Prop}(h:p:=by unfold wrap64;omega):p:=h
theorem Up{p:Prop}(h:p:=by simp only[xT];omega):p:=h
theorem UP{p:Prop}(h:p:=by simp[Act.eval,Act.put]):p:=h
theorem US{p:Prop}(h:p:=by simp<;>omega):p:=h
theorem vc{p:Prop}(h:p:=by show 0<=m.paid;omega):p:=h
theorem vf{p:Prop}(h:p:=by unfold bD;omega):p:=h
theorem vh{p:Prop}(h:p:=by rw[ud];omega):p:=h
theorem vi{p:Prop}(h:p:=by rw[qf6];omega):p:=h
theorem vj{p:Prop}(h:p:=by simp[intOf];omega):p:=h
theorem vl{p:Prop}(h:p:=by rw[qY];simp;omega):p:=h
theorem vm{p:Prop}(h:p:=by decide +kernel):p:=h
theorem vn{p:Prop}(h:p:=by split<;>omega):p:=h
theorem oa{c:Prop}[Decidable c]{α:Type _}{a b:α}(h:¬c:=by omega):ite c a b=b:=if_neg h
theorem oc{c:Prop}[Decidable c]{α:Type _}{a b:α}(h:c:=by omega):ite c a b=a:=if_pos h
open Go.ChangeShapes Go.WideShapes Go.ChangeAt Go.RowKit
def we{d e p2:Prop}(a:d)(b:e)(c:p2):Hid d/\Hid e/\Hid p2:=⟨a,b,c⟩
def JT{e f p2 g:Prop}(a:e)(b:f)(c:p2)(d:g):Hid e/\Hid f/\Hid p2/\Hid g:=⟨a,b,c,d⟩
def wg{f g p2 h i:Prop}(a:f)(b:g)(c:p2)(d:h)(e:i):Hid f/\Hid g/\Hid p2/\Hid h/\Hid i:=⟨a,b,c,d,e⟩
def wk{g h p2 i j k:Prop}(a:g)(b:h)(c:p2)(d:i)(e:j)(f:k):Hid g/\Hid h/\Hid p2/\Hid i/\Hid j/\Hid k:=⟨a,b,c,d,e,f⟩
def wi{h i p2 j k l m:Prop}(a:h)(b:i)(c:p2)(d:j)(e:k)(f:l)(g:m):Hid h/\Hid i/\Hid p2/\Hid j/\Hid k/\Hid l/\Hid m:=⟨a,b,c,d,e,f,g⟩
def wj{i j p2 k l m n o:Prop}(a:i)(b:j)(c:p2)(d:k)(e:l)(f:m)(g:n)(h:o):Hid i/\Hid j/\Hid p2/\Hid k/\Hid l/\Hid m/\Hid n/\Hid o:=⟨a,b,c,d,e,f,g,h⟩
def wv{j k p2 l m n o p q:Prop}(a:j)(b:k)(c:p2)(d:l)(e:m)(f:n)(g:o)(h:p)(i:q):Hid j/\Hid k/\Hid p2/\Hid l/\Hid m/\Hid n/\Hid o/\Hid p/\Hid q:=⟨a,b,c,d,e,f,g,h,i⟩
def wq{k l p2 m n o p q r p9:Prop}(a:k)(b:l)(c:p2)(d:m)(e:n)(f:o)(g:p)(h:q)(i:r)(j:p9):Hid k/\Hid l/\Hid p2/\Hid m/\Hid n/\Hid o/\Hid p/\Hid q/\Hid r/\Hid p9:=⟨a,b,c,d,e,f,g,h,i,j⟩
abbrev qk:=@Option.some.injEq
abbrev qn:=@Go.World.cell?_of_block
abbrev qq:=@Array.getElem?_eq_some_iff
abbrev qt:=@List.getElem?_eq_getElem
abbrev qu:=@Bool.and_eq_true
abbrev qv:=@Nat.le_refl
abbrev qS:=@List.length_append
abbrev qT:=@Go.heap_alloc_new
abbrev jj:=@List.getElem?_eq_some_iff
abbrev jn:=@List.length_cons
abbrev js:=@List.getElem?_append_right
abbrev jt:=@List.getElem?_append_left
abbrev ju:=@List.eq_nil_of_length_eq_zero
abbrev jx:=@Go.AllReadyH.cons
abbrev jz:=@Nat.lt_of_lt_of_le
abbrev kd:=@Go.World.block_lt_of_cell?
abbrev ke:=@Go.Value.slice.injEq
abbrev kh:=@Nat.le_trans
abbrev ki:=@decide_eq_true_eq
abbrev kj:=@Go.AllReadyH.nil
abbrev kl:=@List.getElem?_cons_zero
abbrev km:=@Option.map_eq_some_iff
abbrev kp:=@Go.World.ownsRow.lt
abbrev kA:=@Go.wpAnyH_ready
abbrev kB:=@Nat.zero_le
abbrev kO:=@List.setIfInBounds_toArray
abbrev zd:=@Prod.mk.injEq
abbrev zj:=@List.getElem_mem
abbrev zp:=@Go.World.ownsRow.kept
abbrev zr:=@List.all_eq_true
abbrev zv:=@Go.bodyPost_ret
abbrev zE:=@List.set_cons_succ
abbrev xb:=@List.mem_cons
abbrev xf:=@List.all_cons
abbrev xj:=@List.cons.injEq
abbrev xo:=@Go.World.ownsRow.alloc
abbrev xF:=@List.set_cons_zero
abbrev xT:=@List.length_nil
abbrev yb:=@Go.World.size_alloc
abbrev yd:=@List.getElem?_cons_succ
abbrev ye:=@List.getElem_of_mem
abbrev yi:=@Array.getD_eq_getD_getElem?
abbrev yq:=@List.mem_singleton
abbrev yr:=@Array.getElem?_modify
abbrev yy:=@Go.World.ownsRow.cells
abbrev yW:=@List.length_singleton
abbrev ub:=@List.append_assoc
abbrev ud:=@beq_eq_false_iff_ne
abbrev ue:=@List.length_reverse
abbrev ur:=@List.take_succ_eq_append_getElem
abbrev ux:=@Go.lt_of_block
abbrev qa0:=@List.mem_append
abbrev qa1:=@List.mem_of_getElem?
abbrev qa2:=@Go.World.ownsRow_nil
abbrev qa3:=@Go.Sem.run_bind
abbrev qa4:=@Nat.zero_add
abbrev qa5:=@List.drop_eq_getElem_cons
abbrev qa6:=@Array.getElem?_eq_getElem
abbrev qa7:=@List.mem_map
abbrev qb0:=@List.reverse_cons
abbrev qb1:=@Go.heap_alloc_old
abbrev qb2:=@Go.Addr.mk.injEq
abbrev qb3:=@Go.Value.agg.injEq
abbrev qb4:=@List.dropLast_concat_getLast
abbrev qb5:=@List.nodup_append
abbrev qb6:=@List.getElem?_map
abbrev qb7:=@List.map_cons
abbrev qc0:=@Nat.add_zero
abbrev qc1:=@Array.mk.injEq
abbrev qc2:=@List.map_append
abbrev qc3:=@Go.run_underlying
abbrev qc4:=@List.take_append_drop
abbrev qc5:=@List.getElem?_take
abbrev qc6:=@List.all_append
abbrev qc7:=@Bool.or_eq_true
abbrev qd0:=@Bool.eq_iff_iff
abbrev qd1:=@List.getElem?_set_ne
abbrev qd2:=@List.cons_append
abbrev qd3:=@Go.Calls.quiet_of_same
abbrev qd4:=@Go.cell_of_one
abbrev qd5:=@List.flatMap_cons
abbrev qd6:=@Go.wpAnyH_done
abbrev qd7:=@List.length_eq_zero_iff
abbrev qe0:=@Nat.add_assoc
abbrev qe1:=@Array.getElem?_setIfInBounds_self_of_lt
abbrev qe2:=@List.take_length
abbrev qe3:=@List.append_nil
abbrev qe4:=@Go.IntKind.wrap_i64
abbrev qe5:=@Go.World.cells?_some
abbrev qe6:=@Array.getElem?_toList
abbrev qe7:=@List.reverse_append
abbrev qf0:=@List.nil_append
abbrev qf1:=@List.not_mem_nil
abbrev qf2:=@List.mem_of_mem_take
abbrev qf3:=@Nat.lt_of_le_of_lt
abbrev qf4:=@List.getElem?_set_self
abbrev qf5:=@Go.DataW.trod_int
abbrev qf6:=@List.length_take
abbrev qf7:=@List.eq_of_mem_replicate
abbrev qg0:=@Go.World.news_of_block
abbrev qg1:=@Go.info_parts
abbrev qg2:=@Option.bind_eq_some_iff
abbrev qg3:=@List.map_singleton
abbrev qg4:=@Bool.false_eq_true
abbrev qg5:=@Go.Value.int.injEq
abbrev qg6:=@Option.map_some
abbrev qg7:=@List.length_map
abbrev qh0:=@Nat.zero_mul
abbrev qh1:=@List.take_of_length_le
abbrev qh2:=@List.getElem_cons_zero
abbrev qh3:=@List.any_eq_true
abbrev qh4:=@Option.isNone_iff_eq_none
abbrev qh5:=@Classical.byContradiction
abbrev qh6:=@Go.wp_region_held_drew
abbrev qh7:=@Array.length_toList
abbrev ja0:=@of_decide_eq_true
abbrev ja1:=@Bool.not_eq_true'
abbrev ja2:=@Option.isSome_iff_exists
abbrev ja3:=@List.mem_of_mem_drop
abbrev ja4:=@List.mem_append_left
abbrev ja5:=@Nat.mul_comm
abbrev ja6:=@Array.all_eq_true_iff_forall_mem
abbrev ja7:=@Go.ByteArray.toList_eq
abbrev jb0:=@Nat.add_mul
abbrev jb1:=@List.getElem?_eq_none
abbrev jb2:=@Go.wpList_append_lies
abbrev jb3:=@Go.World.ownsRow.form
abbrev jb4:=@List.getElem?_drop
abbrev jb5:=@List.map_nil
abbrev jb6:=@Nat.mul_le_mul_right
abbrev jb7:=@List.take_append_of_le_length
abbrev jc0:=@decide_eq_false_iff_not
abbrev jc1:=@Go.DataW.trod_struct
abbrev jc2:=@decide_eq_false
abbrev jc3:=@List.mem_filter
abbrev jc4:=@Go.World.ownsRow.frozenAt
abbrev jc5:=@List.length_eq_one_iff
abbrev jc6:=@List.drop_of_length_le
abbrev jc7:=@ByteArray.data_extract
abbrev jd0:=@Option.getD_some
abbrev jd1:=@Go.wp_loop_rounds
abbrev jd2:=@List.singleton_append
abbrev jd3:=@List.set_append_right
abbrev jd4:=@Go.trodAll_cons_mk
abbrev jd5:=@List.length_set
abbrev jd6:=@Go.free_of_one
abbrev jd7:=@Go.World.cell?_alloc_lt
abbrev je0:=@Go.Sem.run_pure
abbrev je1:=@List.size_toArray
abbrev je2:=@List.reverse_reverse
abbrev je3:=@Nat.lt_irrefl
abbrev je4:=@Bool.true_and
abbrev je5:=@Array.getElem?_setIfInBounds_ne
abbrev je6:=@Go.World.grownBy_alloc
abbrev je7:=@List.length_pos_iff
abbrev jf0:=@decide_eq_true
abbrev jf1:=@Go.World.cell?_spot
abbrev jf2:=@Nat.mod_eq_of_lt
abbrev jf3:=@Nat.and_two_pow_sub_one_eq_mod
abbrev jf4:=@List.mapM_cons
abbrev jf5:=@Int.le_refl
abbrev jf6:=@Go.Value.string.injEq
abbrev jf7:=@Array.getElem?_eq_none
abbrev jg0:=@Option.some.inj
abbrev jg1:=@List.range_succ
abbrev jg2:=@Except.ok.injEq
abbrev jg3:=@Go.ownsRow_setCell_other
abbrev jg4:=@List.mem_append_right
abbrev jg5:=@Go.rounds_succ
abbrev jg6:=@Go.one_setCell
abbrev jg7:=@List.mem_cons_of_mem
abbrev jh0:=@Array.replicate_zero
abbrev jh1:=@Array.replicate_succ
abbrev jh2:=@List.mem_flatMap
abbrev jh3:=@List.all_nil
abbrev jh4:=@List.sum_cons
abbrev jh5:=@Nat.le_succ
